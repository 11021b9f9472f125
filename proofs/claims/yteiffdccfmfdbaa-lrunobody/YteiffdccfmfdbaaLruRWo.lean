/- The document's cache: without, first. -/
import Derived.Test.YteiffdccfmfdbaaLruRAcc
namespace Go.Proofs.Yteiffdccfmfdbaa
namespace Sha
open Go.RowKit Mem Lru
section
variable {P : Program} {ops : Array Oper} {o : Oper} {a : Act} {w : World} {Q : Exit → Act → World → Prop} {S : World → Prop} {i : Nat} {r : Plan}
/-- The head of a slice of elements of z cells. -/
theorem plan_slice_to (ty e : TypeId) (x ix : Operand) (a0 : Option Addr) (len cap j z : Nat) (ho : ops.toList[i]? = some o) (hw : Region.wanted o (yielded ops a.tmps) = true) (hop : o.op = .slice ty x none (some ix) none) (hx : a.eval x = .slice a0 len cap) (hi : a.eval ix = .int .i64 (j : Int)) (hj : j ≤ cap)
    (hu : P.underlying ty = some (.slice e)) (hs : (P.info? e).map (·.size) = some z) (h : wpPlan P ops Q S r (a.put o.dst (.slice a0 j cap)) w) : wpPlan P ops Q S (.take i r) a w :=
  plan_take _ ho hw (fun w' _ => by
    cases hq : P.info? e with
    | none => simp [hq] at hs
    | some q =>
      have ha : (a0.map fun x => x.add 0) = a0 := by cases a0 <;> simp [Addr.add]
      have hat : (Instr.sliceAt ty (.slice a0 len cap) none (some (.int .i64 (j : Int))) none).run P w' = .ok (.slice a0 j cap) w' := by
        simp [Instr.sliceAt, Instr.slice, Instr.sliceBounds, Instr.sliceBound, asIntOf, Sem.run_bind, run_underlying hu, sizeOf, typeInfo, hq, hj, ha]
      unfold execOp
      simp only [hop, hx, hi, Option.map_some, Option.map_none, Sem.run_bind, hat, Result.andThen_ok, Sem.run_pure]) h
/-- .. its tail. -/
theorem plan_slice_from (ty e : TypeId) (x ix : Operand) (a0 : Option Addr) (len cap k z : Nat) (ho : ops.toList[i]? = some o) (hw : Region.wanted o (yielded ops a.tmps) = true) (hop : o.op = .slice ty x (some ix) none none) (hx : a.eval x = .slice a0 len cap) (hi : a.eval ix = .int .i64 (k : Int)) (hk : k ≤ len)
    (hu : P.underlying ty = some (.slice e)) (hs : (P.info? e).map (·.size) = some z) (a1 : Option Addr) (ha1 : a1 = if cap = k then a0 else a0.map (·.add (k * z))) (h : wpPlan P ops Q S r (a.put o.dst (.slice a1 (len - k) (cap - k))) w) : wpPlan P ops Q S (.take i r) a w :=
  plan_take _ ho hw (fun w' _ => by
    subst ha1
    cases hq : P.info? e with
    | none => simp [hq] at hs
    | some q =>
      have hs1 : q.size = z := by simpa [hq] using hs
      have hat : (Instr.sliceAt ty (.slice a0 len cap) (some (.int .i64 (k : Int))) none none).run P w' = .ok (.slice (if cap = k then a0 else a0.map (·.add (k * z))) (len - k) (cap - k)) w' := by
        simp [Instr.sliceAt, Instr.slice, Instr.sliceBounds, Instr.sliceBound, asIntOf, Sem.run_bind, run_underlying hu, sizeOf, typeInfo, hq, hs1, hk]
      unfold execOp
      simp only [hop, hx, hi, Option.map_some, Option.map_none, Sem.run_bind, hat, Result.andThen_ok, Sem.run_pure]) h
end
theorem infoHd : (Try.prog.info? 52).map (·.size) = some 3 := by kernel_rfl
theorem elemHd : elemR Try.prog 28 52 (.agg #[.int .i64 0, .slice none 0 0, .bool false]) 3 40 := ⟨Try.underlying28, by kernel_rfl⟩
theorem infoHds : (Try.prog.info? 28).map (·.size) = some 1 := by kernel_rfl
/-- Pages' slices are one cell each. -/
theorem zC_one {F : Foot} {w : World} {z : List Hv} (h : ∀ p ∈ z, SlB F w p.2 p.1.page) : ∀ u ∈ zC z, u.oneCell' = true := by
  intro u hu
  obtain ⟨p, hp, hu⟩ := List.mem_flatMap.1 hu
  obtain ⟨_, a, c, e, _⟩ := h p hp
  simp [hvC] at hu
  rcases hu with rfl | rfl | rfl
  · rfl
  · rw [e]; rfl
  · rfl
theorem rd_take {F : Foot} {w : World} {a : Option Addr} {n c : Nat} {z : List Hv} (h : SlR F w 3 (.slice a n c) z.length (zC z)) {i : Nat} (hi : i ≤ z.length) : RdR w 3 (.slice a i c) i (zC (z.take i)) := by
  obtain ⟨hl, a', c', e, _, hr⟩ := h
  injection e with e1 e2 e3
  refine ⟨by rw [zC_length, List.length_take, Nat.min_eq_left hi], a, c, rfl, fun hne => ?_⟩
  obtain ⟨bb, oo, ea, _, _, hcell⟩ := hr (by omega)
  refine ⟨_, by rw [e1]; exact ea, fun j u hu => ?_⟩
  rw [Addr.add_mid]
  refine hcell j u ?_
  rw [zC_take, List.getElem?_take] at hu
  split at hu
  · exact hu
  · cases hu
theorem rd_drop {F : Foot} {w : World} {a : Option Addr} {n c : Nat} {z : List Hv} (h : SlR F w 3 (.slice a n c) z.length (zC z)) {k : Nat} (hk : k ≤ z.length) : RdR w 3 (.slice (if c = k then a else a.map (·.add (k * 3))) (n - k) (c - k)) (z.length - k) (zC (z.drop k)) := by
  obtain ⟨hl, a', c', e, hc, hr⟩ := h
  injection e with e1 e2 e3
  subst e2
  refine ⟨by rw [zC_length, List.length_drop], _, _, rfl, fun hne => ?_⟩
  obtain ⟨bb, oo, ea, _, _, hcell⟩ := hr (by omega)
  rw [if_neg (by omega), e1, ea]
  refine ⟨_, rfl, fun j u hu => ?_⟩
  rw [zC_drop, List.getElem?_drop] at hu
  have e4 : Addr.add (Addr.add ⟨bb, oo, none⟩ (k * 3)) j = ⟨bb, oo + (3 * k + j), none⟩ := by rw [Addr.add_mid, Addr.add_mid]; congr 1; omega
  rw [e4]
  exact hcell _ u hu
/-- It returns a new slice of these. -/
def WoEnd (w : World) (y : List Hv) (e : Ending) (w' : World) : Prop := ∃ v', e = .returned v' ∧ SlR (fun k => w.heap.size ≤ k) w' 3 v' y.length (zC y) ∧ Below w.heap.size w w'
set_option maxRecDepth 100000 in
set_option maxHeartbeats 2000000 in
theorem rwo_any {F : Foot} {b room : Nat} {v : Value} {z : List Hv} (i : Nat) (w : World) (h : RCv F b w room v z) (hz : z.length ≤ 1000000) (hi : i < z.length) : Calls Try.prog 37 #[rq b, .int .i64 (i : Int)] w (WoEnd w (z.take i ++ z.drop (i + 1))) := by
  have c1 : ∀ w', Below w.heap.size w w' → w'.cell? ⟨b, 1, none⟩ = some v := fun w' hb => by rw [(hb.cell (p := ⟨b, 1, none⟩) h.row.lt), h.row.cell]; rfl
  obtain ⟨_, a, cap, rfl, hcap, _⟩ := id h.sl
  obtain ⟨n, hn⟩ : ∃ n, n = z.length := ⟨_, rfl⟩
  have h1 := rd_take h.sl (i := i) (by omega)
  have h2 := fun w' (hb : Below w.heap.size w w') => rd_drop (h.sl.below hb) (k := i + 1) (by omega)
  have ho1 := zC_one (z := z.take i) fun p hp => h.pages p (List.mem_of_mem_take hp)
  have ho2 := zC_one (z := z.drop (i + 1)) fun p hp => h.pages p (List.mem_of_mem_drop hp)
  obtain ⟨a1, ha1⟩ : ∃ a1, a1 = (if cap = i + 1 then a else a.map (·.add ((i + 1) * 3))) := ⟨_, rfl⟩
  rw [← hn] at c1 hcap h2
  rw [← ha1] at h2
  have hi' : i < n := by omega
  have H := Lib.hid h; have HN := Lib.hid hn; have RT := Lib.hid h1; have RD := Lib.hid h2; have O1 := Lib.hid ho1; have O2 := Lib.hid ho2; have C1 := Lib.hid c1; have HA1 := Lib.hid ha1
  have hz' : n ≤ 1000000 := by omega
  clear h hn h1 h2 ho1 ho2 c1 hz hi ha1
  go_enter Try.func37, Try.ntmps37
  go_wp2_with fail
  refine wp_region_plan (.take 0 (.take 1 (.take 2 (.take 3 (.take 4 (.take 5 (.take 7 (.take 8 (.take 9 (.take 10 (.take 11 (.take 12 (.take 13 (.sole 6 (.sole 14 (.take 15 .done)))))))))))))))) (by kernel_rfl) (by kernel_rfl) (by kernel_rfl) ?_
  (first | (refine plan_move _ _ (by rfl) (by rfl) (.inl (by rfl)) Mem.ev_a ?_) | (refine plan_move _ _ (by rfl) (by rfl) (.inr (by rfl)) Mem.ev_a ?_) | (refine plan_pick_t _ _ _ _ (by rfl) (by rfl) (by rfl) Mem.ev_a Mem.ev_a ?_) | (refine plan_pick_f _ _ _ _ (by rfl) (by rfl) (by rfl) Mem.ev_a Mem.ev_a ?_))
  (simp only [Act.put, List.setIfInBounds_toArray, List.set_cons_zero, List.set_cons_succ])
  refine plan_nilcheck _ ⟨b, 0, none⟩ (by rfl) (by rfl) (by rfl) Mem.ev_a ?_
  (simp only [Act.put, List.setIfInBounds_toArray, List.set_cons_zero, List.set_cons_succ])
  refine plan_field 30 _ 1 b 0 ⟨b, 1, none⟩ (by rfl) (by rfl) (by rfl) Mem.ev_a (fun wx => by go_simp) ?_
  (simp only [Act.put, List.setIfInBounds_toArray, List.set_cons_zero, List.set_cons_succ])
  refine plan_cell 28 _ _ (.slice a n cap) _ (by rfl) (by rfl) (by rfl) Mem.ev_a (fun w' hw' => C1.out w' hw') Try.underlying28 (by rfl) ?_
  (simp only [Act.put, List.setIfInBounds_toArray, List.set_cons_zero, List.set_cons_succ])
  (first | (refine plan_move _ _ (by rfl) (by rfl) (.inl (by rfl)) Mem.ev_a ?_) | (refine plan_move _ _ (by rfl) (by rfl) (.inr (by rfl)) Mem.ev_a ?_) | (refine plan_pick_t _ _ _ _ (by rfl) (by rfl) (by rfl) Mem.ev_a Mem.ev_a ?_) | (refine plan_pick_f _ _ _ _ (by rfl) (by rfl) (by rfl) Mem.ev_a Mem.ev_a ?_))
  (simp only [Act.put, List.setIfInBounds_toArray, List.set_cons_zero, List.set_cons_succ])
  refine plan_slice_to 28 52 _ _ a n cap i 3 (by rfl) (by rfl) (by rfl) Mem.ev_a Mem.ev_a (by omega) Try.underlying28 infoHd ?_
  (simp only [Act.put, List.setIfInBounds_toArray, List.set_cons_zero, List.set_cons_succ])
  (first | (refine plan_move _ _ (by rfl) (by rfl) (.inl (by rfl)) Mem.ev_a ?_) | (refine plan_move _ _ (by rfl) (by rfl) (.inr (by rfl)) Mem.ev_a ?_) | (refine plan_pick_t _ _ _ _ (by rfl) (by rfl) (by rfl) Mem.ev_a Mem.ev_a ?_) | (refine plan_pick_f _ _ _ _ (by rfl) (by rfl) (by rfl) Mem.ev_a Mem.ev_a ?_))
  (simp only [Act.put, List.setIfInBounds_toArray, List.set_cons_zero, List.set_cons_succ])
  refine plan_nilcheck _ ⟨b, 0, none⟩ (by rfl) (by rfl) (by rfl) Mem.ev_a ?_
  (simp only [Act.put, List.setIfInBounds_toArray, List.set_cons_zero, List.set_cons_succ])
  refine plan_field 30 _ 1 b 0 ⟨b, 1, none⟩ (by rfl) (by rfl) (by rfl) Mem.ev_a (fun wx => by go_simp) ?_
  (simp only [Act.put, List.setIfInBounds_toArray, List.set_cons_zero, List.set_cons_succ])
  refine plan_cell 28 _ _ (.slice a n cap) _ (by rfl) (by rfl) (by rfl) Mem.ev_a (fun w' hw' => C1.out w' hw') Try.underlying28 (by rfl) ?_
  (simp only [Act.put, List.setIfInBounds_toArray, List.set_cons_zero, List.set_cons_succ])
  (first | (refine plan_move _ _ (by rfl) (by rfl) (.inl (by rfl)) Mem.ev_a ?_) | (refine plan_move _ _ (by rfl) (by rfl) (.inr (by rfl)) Mem.ev_a ?_) | (refine plan_pick_t _ _ _ _ (by rfl) (by rfl) (by rfl) Mem.ev_a Mem.ev_a ?_) | (refine plan_pick_f _ _ _ _ (by rfl) (by rfl) (by rfl) Mem.ev_a Mem.ev_a ?_))
  (simp only [Act.put, List.setIfInBounds_toArray, List.set_cons_zero, List.set_cons_succ])
  refine plan_bin .add _ _ _ _ _ _ (.int .i64 ((i + 1 : Nat) : Int)) (by rfl) (by rfl) (by rfl) Mem.ev_a Mem.ev_a (fun w' => by go_simp; rw [i64_id _ (by omega) (by omega)]) ?_
  (simp only [Act.put, List.setIfInBounds_toArray, List.set_cons_zero, List.set_cons_succ])
  refine plan_slice_from 28 52 _ _ a n cap (i + 1) 3 (by rfl) (by rfl) (by rfl) Mem.ev_a Mem.ev_a (by omega) Try.underlying28 infoHd a1 HA1.out ?_
  (simp only [Act.put, List.setIfInBounds_toArray, List.set_cons_zero, List.set_cons_succ])
  refine plan_append_app _ _ 28 (by rfl) (by rfl) (by rfl) (.slice a i cap) 0 i 3 (zC (z.take i)) (.agg #[.int .i64 0, .slice none 0 0, .bool false]) 40 elemHd (by rfl) (by decide) Mem.ev_a (ownsRow_nil0 _ w.heap.size _ _) Mem.ev_a RT.out O1.out (by omega) (by omega) (Nat.le_refl _) ?_
  intro v6 w6 ho6 _ hb6
  have hb6' := undrew15 hb6
  refine ⟨hb6', ?_⟩
  (simp only [Act.put, List.setIfInBounds_toArray, List.set_cons_zero, List.set_cons_succ])
  refine plan_append_app _ _ 28 (by rfl) (by rfl) (by rfl) (.slice a1 (n - (i + 1)) (cap - (i + 1))) (0 + i) (n - (i + 1)) 3 (zC (z.drop (i + 1))) (.agg #[.int .i64 0, .slice none 0 0, .bool false]) 40 elemHd (by rfl) (by decide) Mem.ev_a ho6 Mem.ev_a (RD.out w6 hb6') O2.out (by omega) (by omega) hb6'.size ?_
  intro v7 w7 ho7 _ hb7
  have hb7' : Below w.heap.size w w7 := hb6'.trans hb7
  refine ⟨hb7', ?_⟩
  (simp only [Act.put, List.setIfInBounds_toArray, List.set_cons_zero, List.set_cons_succ])
  (first | (refine plan_move _ _ (by rfl) (by rfl) (.inl (by rfl)) Mem.ev_a ?_) | (refine plan_move _ _ (by rfl) (by rfl) (.inr (by rfl)) Mem.ev_a ?_) | (refine plan_pick_t _ _ _ _ (by rfl) (by rfl) (by rfl) Mem.ev_a Mem.ev_a ?_) | (refine plan_pick_f _ _ _ _ (by rfl) (by rfl) (by rfl) Mem.ev_a Mem.ev_a ?_))
  (simp only [Act.put, List.setIfInBounds_toArray, List.set_cons_zero, List.set_cons_succ])
  refine plan_nil ?_
  have hlen : 0 + i + (n - (i + 1)) = (z.take i ++ z.drop (i + 1)).length := by rw [List.length_append, List.length_take, List.length_drop, HN.out]; have := HN.out; omega
  have hr := ownsRow_slR ho7
  rw [hlen, List.nil_append, ← zC_append] at hr
  have HR := Lib.hid hr; have HB := Lib.hid hb7'
  clear hr hb7' ho7 hb7 ho6 hb6 hb6' hlen
  go_wp2_with fail
  go_ret
  exact ⟨v7, rfl, HR.out, HB.out⟩
end Sha
end Go.Proofs.Yteiffdccfmfdbaa
