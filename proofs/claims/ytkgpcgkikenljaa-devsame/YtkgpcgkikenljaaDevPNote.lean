/- Package dev: New, note, Bytes, Trace, Waiting: walks. -/
import Derived.Test.YtkgpcgkikenljaaDevPLow
namespace Go.Proofs.Ytkgpcgkikenljaa
namespace Sha
open Go.RowKit Mem
theorem App.after {w w0 w1 : World} {v v' : Value} (h : App w0 w1 v v') (hb : Below w.heap.size w w0) : App w w1 v v' :=
  ⟨Nat.le_trans hb.size h.size, fun k hk hn => (h.k k (Nat.lt_of_lt_of_le hk hb.size) hn).trans (hb.block k hk), h.b.imp id fun ⟨g, e, hg⟩ => ⟨g, e, Nat.le_trans hb.size hg⟩⟩
theorem App.chg {F : Foot} {w w1 : World} {v v' : Value} (h : App w w1 v v') (hb : Below 0 w w1) (hF : ∀ k, v.ownBlock = some k → F k) : Chg F w w1 :=
  ⟨hb.os, hb.tape, hb.output, h.size, fun k hk hn => h.k k hk fun e => hn (hF k e)⟩
theorem at_appd {w w1 : World} {b : Nat} {C : Array Value} {t : TypeId} {v v' : Value} (h : At w b C t) (ha : App w w1 v v') (hne : v.ownBlock ≠ some b) : At w1 b C t := Sha.At.app h ha.k hne
section
variable {P : Program} {w : World} {B : Nat} {e : TypeId} {v : Value} {xs : List Value}
theorem run_append_app {t ty : TypeId} {zv vx : Value} {n m z : Nat} {ys : List Value} {bytes : Nat} (he : elemR P t e zv z bytes) (hzv : zv.cells.size = z) (hz0 : 0 < z) (hown : w.ownsRow B e z v n xs) (hrd : RdR w z vx m ys) (h1 : ∀ u ∈ ys, u.oneCell' = true) (hlen : (n + m) * bytes ≤ 140737488355328) (hl2 : n + m < 140737488355328) (hB : B ≤ w.heap.size) :
    ∃ v' w', (Builtin.append_ #[t, t] ty #[v, vx]).run P w = .ok v' w' ∧ w'.ownsRow B e z v' (n + m) (xs ++ ys) ∧ App w w' v v' ∧ Below B w w' := by
  obtain ⟨i0, hi, hzz, hs, hb⟩ := info_parts he.2
  obtain ⟨hyl, a0, cap, rfl, hr⟩ := hrd
  have hml : 140737488355328 ≤ maxLen := by simp [maxLen]
  have hlt : ∀ g, v.ownBlock = some g → B ≤ g := fun g hg => (World.ownsRow.lt hown g hg).1
  have fin : ∀ {v' : Value} {w' : World}, w.grownBy w' v.ownBlock → (v'.ownBlock = v.ownBlock ∨ v'.ownBlock = some w.heap.size) → App w w' v v' ∧ Below B w w' := fun h3 h5 =>
    ⟨⟨h3.size, fun k hk hne => h3.block k hk (fun e => hne e.symm), h5.imp id fun h => ⟨_, h, Nat.le_refl _⟩⟩, (Below.refl _ _).grown h3 hB hlt⟩
  by_cases hne : m = 0
  · subst hne
    have hys : ys = [] := List.eq_nil_of_length_eq_zero (by simpa using hyl)
    subst hys
    cases a0 with
    | none =>
      refine ⟨v, w, ?_, by simpa using hown, fin (World.grownBy.refl w _) (.inl rfl)⟩
      rcases hown.2 with ⟨rfl, rfl⟩ | ⟨g, cap', cur, rfl, _, _, hn, _⟩
      · simp [Builtin.append_, run_underlying he.1, sizeOf, typeInfo, hi, Builtin.lenOf, Builtin.firstCells]
      · simp [Builtin.append_, run_underlying he.1, sizeOf, typeInfo, hi, Builtin.lenOf, Builtin.firstCells, hn, storeCells]
    | some ad =>
      obtain ⟨v', w', hrun, h2, h3, _, h5⟩ := run_append_own_at (P := P) w B t ty e i0 zv z bytes he.1 hi hzz hs hb hzv hz0 v n xs hown ad 0 cap [] (by simp) (fun j u hu => by simp at hu) (fun u hu => by simp at hu) (by omega) (by simpa using hlen) hB
      exact ⟨v', w', hrun, h2, fin h3 h5⟩
  · obtain ⟨ad, rfl, hc⟩ := hr hne
    obtain ⟨v', w', hrun, h2, h3, _, h5⟩ := run_append_own_at (P := P) w B t ty e i0 zv z bytes he.1 hi hzz hs hb hzv hz0 v n xs hown ad m cap ys hyl hc h1 (by omega) hlen hB
    exact ⟨v', w', hrun, h2, fin h3 h5⟩
theorem wpList_append_app {ops : Array Oper} {rest : List Oper} {o : Oper} {a : Act} {Q : Exit → Act → World → Prop} (hgd : o.guard = none) (s x : Operand) (t : TypeId) (ho : o.op = .call { callee := .builtin .append, args := #[s, x], argTypes := #[t, t] })
    (vx : Value) (n m z : Nat) (ys : List Value) (zv : Value) (bytes : Nat) (he : elemR P t e zv z bytes) (hzv : zv.cells.size = z) (hz0 : 0 < z) (hs : a.eval s = v) (hown : w.ownsRow B e z v n xs) (hx : a.eval x = vx) (hrd : RdR w z vx m ys) (h1 : ∀ u ∈ ys, u.oneCell' = true) (hlen : (n + m) * bytes ≤ 140737488355328) (hl2 : n + m < 140737488355328) (hB : B ≤ w.heap.size)
    (h : ∀ v' w', w'.ownsRow B e z v' (n + m) (xs ++ ys) → App w w' v v' → Below B w w' → wpList P ops Q rest (a.put o.dst v') w') :
    wpList P ops Q (o :: rest) a w := by
  refine wpList_plain hgd fun K hK => ?_
  obtain ⟨v', w', hrun, h2, h3, h4⟩ := run_append_app (P := P) (ty := o.type) he hzv hz0 hown hrd h1 hlen hl2 hB
  unfold Oper.wp execOp
  simp only [ho, resolve, invoke, builtin, Sem.run_bind, Sem.run_pure, Result.andThen_ok, List.map_toArray, List.map_cons, List.map_nil, hs, hx, hrun]
  exact hK _ _ (h v' w' h2 h3 h4)
theorem plan_append_app {ops : Array Oper} {o : Oper} {a : Act} {Q : Exit → Act → World → Prop} {S : World → Prop} {i : Nat} {r : Plan} (s x : Operand) (t : TypeId) (ho : ops.toList[i]? = some o) (hw : Region.wanted o (yielded ops a.tmps) = true) (hop : o.op = .call { callee := .builtin .append, args := #[s, x], argTypes := #[t, t] })
    (vx : Value) (n m z : Nat) (ys : List Value) (zv : Value) (bytes : Nat) (he : elemR P t e zv z bytes) (hzv : zv.cells.size = z) (hz0 : 0 < z) (hs : a.eval s = v) (hown : w.ownsRow B e z v n xs) (hx : a.eval x = vx) (hrd : RdR w z vx m ys) (h1 : ∀ u ∈ ys, u.oneCell' = true) (hlen : (n + m) * bytes ≤ 140737488355328) (hl2 : n + m < 140737488355328) (hB : B ≤ w.heap.size)
    (h : ∀ v' w', w'.ownsRow B e z v' (n + m) (xs ++ ys) → App w w' v v' → Below B w w' → S w' ∧ wpPlan P ops Q S r (a.put o.dst v') w') :
    wpPlan P ops Q S (.sole i r) a w := by
  refine wpOp_at ho hw ?_
  obtain ⟨v', w', hrun, h2, h3, h4⟩ := run_append_app (P := P) (ty := o.type) he hzv hz0 hown hrd h1 hlen hl2 hB
  unfold Oper.wp execOp
  simp only [hop, resolve, invoke, builtin, Sem.run_bind, Sem.run_pure, Result.andThen_ok, List.map_toArray, List.map_cons, List.map_nil, hs, hx, hrun]
  exact h v' w' h2 h3 h4
end
theorem i64s_snoc (l : List Int) (n : Int) : i64s l ++ [.int .i64 n] = i64s (l ++ [n]) := by simp [i64s]
theorem ownsRow_base0 {w : World} {B : Nat} {e : TypeId} {z n : Nat} {v : Value} {xs : List Value} (h : w.ownsRow B e z v n xs) : w.ownsRow 0 e z v n xs := ownsRow_base h (Nat.zero_le _)
/-- One more is told. -/
theorem pv_note {F D : Foot} {br bb : Nat} {w w1 w2 : World} {s : St6} {vw vs vt vt' : Value} {n : Int} (h : PV F D br bb w s vw vs vt) (ho : w1.ownsRow 0 3 1 vt' (s.t.length + 1) (i64s s.t ++ [.int .i64 n])) (ha : App w w1 vt vt') (hb : Below 0 w w1)
    (hA : At w2 br (pRow bb s.n vw vs vt') 62) (hk2 : ∀ k, k ≠ br → w2.heap[k]? = w1.heap[k]?) (hk : ∀ B a, Below B a w1 → B ≤ br → Below B a w2) : StEnd PSt F br w { s with t := s.t ++ [n] } w2 := by
  have h1 := pm_trace (l := s.t ++ [n]) h.m h.blt ⟨_, h.row⟩ ha (by rw [List.length_append, ← i64s_snoc]; exact ho)
  obtain ⟨h3, h4⟩ := pv_set (s' := { s with t := s.t ++ [n] }) h rfl (ha.chg hb fun k e => (h.m.ot k e).1) hA hk2 hk h1 (fun k hk _ => hk)
  exact pv_end h3 h4
set_option maxRecDepth 100000 in
set_option maxHeartbeats 1000000 in
theorem pnote_any {F : Foot} {br : Nat} {s : St6} (n : Int) (w : World) (hr : PSt F br w s) (ht : s.t.length ≤ 1001) :
    Calls Try.prog 38 #[rq br, .int .i64 n] w fun e w' => e = .returned (.tuple #[]) ∧ StEnd PSt F br w { s with t := s.t ++ [n] } w' := by
  obtain ⟨D, bb, vw, vs, vt, hv⟩ := hr
  obtain ⟨at4, c4, rfl⟩ := hv.t_hd
  obtain ⟨L, hL⟩ : ∃ L, L = s.t.length := ⟨_, rfl⟩
  obtain ⟨N, hN⟩ : ∃ N, N = s.n := ⟨_, rfl⟩
  have hrow := hv.row
  have hne := own_ne_at hv.m.ht hv.row (by decide)
  have hown := ownsRow_below hv.m.ht ((Below.refl _ _).alloc (Nat.le_refl _) (.cells #[.int .i64 n] 3))
  rw [← hL] at hrow ht hv hown hne
  rw [← hN] at hrow
  have c3 : w.cell? ⟨br, 3, none⟩ = some (.slice at4 L c4) := by rw [hrow.cell]; rfl
  have g1 : ¬ (L : Int) = 100000 := by omega
  have hal : Below w.heap.size w (w.alloc (.cells #[.int .i64 n] 3)) := (Below.refl _ _).alloc (Nat.le_refl _) _
  have HV := Lib.hid hv; have HROW := Lib.hid hrow; have HO := Lib.hid hown; have HB := Lib.hid hal; have HNE := Lib.hid hne; have HL := Lib.hid hL; have HN := Lib.hid hN
  clear hv hrow hown hal hne hL hN
  go_enter Try.func38, Try.ntmps38
  go_wp2_with (first
    | (at_builtin; go_loud (refine wpList_append_app (by rfl) _ _ 30 (by rfl) (.slice (some ⟨w.heap.size, 0, none⟩) 1 1) L 1 1 [.int .i64 n] (.int .i64 0) 8 elemRI (by rfl) (by decide) (by rfl) HO.out (by rfl) (by exact rdR_new (e := 3) (C := #[.int .i64 n])) (by simp [Value.oneCell']) (by omega) (by omega) (by omega) ?_; intro v5 w5 ho5 ha5 hb5; obtain ⟨a5, c5, rfl⟩ := rows_hd ho5; have O5 := Lib.hid ho5; have A5 : Hid (App w w5 (.slice at4 L c4) (.slice a5 (L + 1) c5)) := ha5.after HB.out; have B5 : Hid (Below 0 w w5) := (HB.out.mono (Nat.zero_le _)).trans hb5; have R5 : Hid (At w5 br _ _) := at_appd HROW.out A5.out HNE.out; clear ho5 ha5 hb5))
    | (refine Mem.wpList_store_one (by rfl) 30 _ _ (by rfl) (by rfl) br 3 (.slice a5 (L + 1) c5) (by rfl) (by rfl) (by rfl) infoInts _ 62 R5.out (by simp [pRow]) ?_; intro w8 ha ho hk; have R8 : Hid (StEnd PSt F br w { s with t := s.t ++ [n] } w8) := pv_note HV.out (by rw [← HL.out]; exact O5.out) A5.out B5.out (by rw [← HN.out]; exact ha) ho hk; clear ha ho hk))
  go_end0
  exact ⟨rfl, R8.out⟩
theorem infoDSt : (Try.prog.info? 62).map (·.size) = some 4 := by kernel_rfl
set_option maxRecDepth 100000 in
set_option maxHeartbeats 1000000 in
theorem pbytes_any {F : Foot} {br : Nat} {s : St6} (w : World) (hr : PSt F br w s) (h1 : 1 ≤ s.n) (h2 : s.n ≤ 1024) :
    Calls Try.prog 14 #[rq br] w fun e w' => ∃ v, e = .returned v ∧ OwnB w' w.heap.size v s.b ∧ Below w.heap.size w w' := by
  obtain ⟨D, bb, vw, vs, vt, hv⟩ := hr
  obtain ⟨L, hL⟩ : ∃ L, L = s.n * 256 := ⟨_, rfl⟩
  have hrow := hv.row
  have hmd := pmade_any br bb s.n vw vs vt w hv.row h2 h1
  have hcl := pclone_any s.b (.slice (some ⟨bb, 0, none⟩) L L) w (by rw [hv.m.len]; omega) (at_sl hv.m.by8 (by rw [hv.m.len, hL]))
  have c0 : w.cell? ⟨br, 0, none⟩ = some (.slice (some ⟨bb, 0, none⟩) L L) := by rw [hrow.cell, hL]; rfl
  have MD := Lib.hid hmd; have CL := Lib.hid hcl
  clear hrow hmd hcl hL hv
  go_enter Try.func14, Try.ntmps14
  go_wp2_with fail
  refine MD.out.mono ?_
  rintro o w' ⟨rfl, rfl⟩
  go_wp2_with fail
  refine CL.out.mono ?_
  rintro o w3 ⟨v3, rfl, ho3, hb3⟩
  have O3 := Lib.hid ho3; have B3 := Lib.hid hb3
  clear ho3 hb3
  go_wp2_with fail
  go_ret
  exact ⟨v3, rfl, O3.out, B3.out⟩
set_option maxRecDepth 100000 in
set_option maxHeartbeats 1000000 in
theorem ptrace_any {F : Foot} {br : Nat} {s : St6} (w : World) (hr : PSt F br w s) (h1 : 1 ≤ s.n) (h2 : s.n ≤ 1024) (ht : s.t.length ≤ 1000) :
    Calls Try.prog 16 #[rq br] w fun e w' => ∃ v, e = .returned v ∧ w'.ownsRow w.heap.size 3 1 v s.t.length (i64s s.t) ∧ Below w.heap.size w w' := by
  obtain ⟨D, bb, vw, vs, vt, hv⟩ := hr
  obtain ⟨at4, c4, rfl⟩ := hv.t_hd
  have hrow := hv.row
  have hmd := pmade_any br bb s.n vw vs _ w hv.row h2 h1
  have hcl := iclone_any s.t _ w (by omega) (ownsRow_slR hv.m.ht)
  obtain ⟨L, hL⟩ : ∃ L, L = s.t.length := ⟨_, rfl⟩
  rw [← hL] at hrow hcl ⊢
  have c3 : w.cell? ⟨br, 3, none⟩ = some (.slice at4 L c4) := by rw [hrow.cell]; rfl
  have MD := Lib.hid hmd; have CL := Lib.hid hcl
  clear hrow hmd hcl hL hv
  go_enter Try.func16, Try.ntmps16
  go_wp2_with fail
  refine MD.out.mono ?_
  rintro o w' ⟨rfl, rfl⟩
  go_wp2_with fail
  refine CL.out.mono ?_
  rintro o w3 ⟨v3, rfl, ho3, hb3⟩
  have O3 := Lib.hid ho3; have B3 := Lib.hid hb3
  clear ho3 hb3
  go_wp2_with fail
  go_ret
  exact ⟨v3, rfl, O3.out, B3.out⟩
end Sha
end Go.Proofs.Ytkgpcgkikenljaa
