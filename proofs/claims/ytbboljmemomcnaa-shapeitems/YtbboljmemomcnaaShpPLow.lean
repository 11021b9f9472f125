/- The program's shape: isWithin, nodesOver, New, Pages, levels. -/
import Derived.Test.YtbboljmemomcnaaShpC
import Derived.Test.YtbboljmemomcnaaApp
import Derived.OwnWalk
import Derived.StillTailTactics
import Derived.Deep.DeepCutAuto
namespace Go.Proofs.Ytbboljmemomcnaa
namespace Mem
open Go.RowKit
/-- A slice cut to its length (three indices, none below). -/
theorem wpList_slice_max {P : Program} {ops : Array Oper} {rest : List Oper} {op : Oper} {a : Act} {w : World} {Q : Exit → Act → World → Prop} (hgd : op.guard = none) (ty : TypeId) (x i j : Operand) (ho : op.op = .slice ty x none (some i) (some j))
    (elem : TypeId) (hu : P.underlying ty = some (.slice elem)) (z : Nat) (hs : (P.info? elem).map (·.size) = some z) (b o len cap k : Nat) (hx : a.eval x = .slice (some ⟨b, o, none⟩) len cap) (hi : a.eval i = .int .i64 (k : Int)) (hj : a.eval j = .int .i64 (k : Int)) (hk : k ≤ cap)
    (h : wpList P ops Q rest (a.put op.dst (.slice (some ⟨b, o, none⟩) k k)) w) : wpList P ops Q (op :: rest) a w := by
  refine wpList_plain hgd fun K hK => ?_
  cases hq : P.info? elem with
  | none => simp [hq] at hs
  | some q =>
    have hkl : (k : Int) ≤ (cap : Int) := by omega
    have hrun : (Instr.slice ty (.slice (some ⟨b, o, none⟩) len cap) none (some (.int .i64 (k : Int))) (some (.int .i64 (k : Int)))).run P w = .ok (.slice (some ⟨b, o, none⟩) k k) w := by
      simp [Instr.slice, Instr.sliceBounds, Instr.sliceBound, asIntOf, Sem.run_bind, run_underlying hu, sizeOf, typeInfo, hq, hk, Addr.add_mid]
    have hat : (Instr.sliceAt ty (.slice (some ⟨b, o, none⟩) len cap) none (some (.int .i64 (k : Int))) (some (.int .i64 (k : Int)))).run P w = .ok (.slice (some ⟨b, o, none⟩) k k) w := by
      simp [Instr.sliceAt, Sem.run_bind, run_underlying hu, hrun]
    unfold Oper.wp execOp
    simp only [ho, hx, hi, hj, Option.map_some, Option.map_none, Sem.run_bind, hat, Result.andThen_ok, Sem.run_pure]
    exact hK _ _ h
end Mem
namespace Sha
open Go.RowKit Mem
set_option maxRecDepth 100000
/-- It returns this value in the same world. -/
def QEnd (v : Value) (w : World) (e : Ending) (w' : World) : Prop := e = .returned v ∧ w' = w
theorem within_any (z f m : Int) (w : World) (h0 : 0 ≤ f) (h1 : 0 ≤ m) (h2 : f + m < 4000000000) : Calls Try.prog 30 #[.int .i64 z, .int .i64 f, .int .i64 m] w (QEnd (.bool (decide (f ≤ z ∧ z < f + m))) w) := by
  by_cases a : f ≤ z
  · by_cases b : z < f + m
    · rw [show decide (f ≤ z ∧ z < f + m) = true from decide_eq_true ⟨a, b⟩]
      go_enter Try.func30, Try.ntmps30
      go_wp2_with fail
      go_ret
      exact ⟨rfl, rfl⟩
    · rw [show decide (f ≤ z ∧ z < f + m) = false from decide_eq_false (fun h => b h.2)]
      go_enter Try.func30, Try.ntmps30
      go_wp2_with fail
      go_ret
      exact ⟨rfl, rfl⟩
  · rw [show decide (f ≤ z ∧ z < f + m) = false from decide_eq_false (fun h => a h.1)]
    go_enter Try.func30, Try.ntmps30
    go_wp2_with fail
    go_ret
    exact ⟨rfl, rfl⟩
theorem nodes_any (m : Nat) (w : World) (h : m ≤ 216) : Calls Try.prog 33 #[.int .i64 (m : Int)] w (QEnd (.int .i64 (cnt m : Nat)) w) := by
  have h6 : ((m : Int) + 6 - 1) / 6 = ((cnt m : Nat) : Int) := by unfold cnt; omega
  have H6 := Lib.hid h6
  clear h6
  go_enter Try.func33, Try.ntmps33
  go_wp2_with fail
  go_ret
  exact ⟨by rw [← H6.out]; go_num, rfl⟩
/-- The program's shape as one value. -/
def psC (p : Nat) : Array Value := #[.int .i64 (p : Int)]
theorem psC_one (p : Nat) : (psC p).all (·.oneCell') = true := by simp [psC, Value.oneCell']
theorem infoPS : (Try.prog.info? 23).map (·.size) = some 1 := by kernel_rfl
theorem zeroPS (w : World) : (zeroValue 23).run Try.prog w = .ok (.agg (psC 0)) w := by kernel_rfl
theorem buildPS0 (w : World) : (Instr.build 23 #[]).run Try.prog w = .ok (.agg (psC 0)) w := by kernel_rfl
theorem buildPS (p : Nat) (w : World) : (Instr.build 23 #[(0, .int .i64 (p : Int))]).run Try.prog w = .ok (.agg (psC p)) w := by kernel_rfl
theorem pnew_bad (z : Int) (w : World) (h : z < 1 ∨ 216 < z) : Calls Try.prog 7 #[.int .i64 z] w fun e w' => e = .returned (.tuple #[.agg (psC 0), .int .i64 1]) ∧ Below w.heap.size w w' := by
  obtain ⟨Z, hZ⟩ : ∃ Z, Z = psC 0 := ⟨_, rfl⟩
  have zs : Z.size = 1 := by rw [hZ]; rfl
  have zo : Z.all (·.oneCell') = true := by rw [hZ]; exact psC_one 0
  have hx : ∀ w, (zeroValue 23).run Try.prog w = .ok (.agg Z) w := by rw [hZ]; exact zeroPS
  have bn : ∀ w, (Instr.build 23 #[]).run Try.prog w = .ok (.agg Z) w := by rw [hZ]; exact buildPS0
  rw [← hZ]
  have az := at_new w Z 23
  have bz : Below w.heap.size w (w.alloc (.cells Z 23)) := (Below.refl _ _).alloc (Nat.le_refl _) _
  have ZS := Lib.hid zs; have ZO := Lib.hid zo; have BN := Lib.hid bn; have AZ := Lib.hid az; have BZ := Lib.hid bz
  clear zs zo bn az bz hZ
  by_cases h0 : z < 1
  · go_enter Try.func7, Try.ntmps7
    go_upto_region 1 with fail
    clear hx
    generalize w.alloc (.cells Z 23) = w1 at *
    go_wp2_with (first
      | (refine Mem.wpList_build (by rfl) 23 _ #[] (.agg Z) (by rfl) (by simp) BN.out ?_)
      | (refine wpList_store_all (by rfl) 23 _ _ (by rfl) (by rfl) w.heap.size Z (by rfl) (by rfl) (by rw [ZS.out]; exact infoPS) Z 23 AZ.out (by rfl) ZO.out ?_))
    try simp only [Exit.inBlock, Exit.then]
    refine ret_row_tmp (by rfl) w.heap.size 23 Z _ _ (by rfl) (by rfl) (AZ.out.row Z) Try.underlying23 (by rfl) (by rw [ZS.out]; exact infoPS) ?_
    exact ⟨rfl, below_row BZ.out (Nat.le_refl _) Z⟩
  · have h1 : 216 < z := by omega
    clear h
    go_enter Try.func7, Try.ntmps7
    go_upto_region 1 with fail
    clear hx
    generalize w.alloc (.cells Z 23) = w1 at *
    go_wp2_with (first
      | (refine Mem.wpList_build (by rfl) 23 _ #[] (.agg Z) (by rfl) (by simp) BN.out ?_)
      | (refine wpList_store_all (by rfl) 23 _ _ (by rfl) (by rfl) w.heap.size Z (by rfl) (by rfl) (by rw [ZS.out]; exact infoPS) Z 23 AZ.out (by rfl) ZO.out ?_))
    try simp only [Exit.inBlock, Exit.then]
    refine ret_row_tmp (by rfl) w.heap.size 23 Z _ _ (by rfl) (by rfl) (AZ.out.row Z) Try.underlying23 (by rfl) (by rw [ZS.out]; exact infoPS) ?_
    exact ⟨rfl, below_row BZ.out (Nat.le_refl _) Z⟩
theorem pnew_good (p : Nat) (w : World) (h0 : 1 ≤ p) (h1 : p ≤ 216) : Calls Try.prog 7 #[.int .i64 (p : Int)] w fun e w' => e = .returned (.tuple #[.agg (psC p), .int .i64 0]) ∧ Below w.heap.size w w' := by
  obtain ⟨Z, hZ⟩ : ∃ Z, Z = psC 0 := ⟨_, rfl⟩
  obtain ⟨D, hD⟩ : ∃ D, D = psC p := ⟨_, rfl⟩
  have zs : Z.size = 1 := by rw [hZ]; rfl
  have ds : D.size = 1 := by rw [hD]; rfl
  have dO : D.all (·.oneCell') = true := by rw [hD]; exact psC_one p
  have hx : ∀ w, (zeroValue 23).run Try.prog w = .ok (.agg Z) w := by rw [hZ]; exact zeroPS
  have bn : ∀ w, (Instr.build 23 #[(0, .int .i64 (p : Int))]).run Try.prog w = .ok (.agg D) w := by rw [hD]; exact buildPS p
  rw [← hD]
  have az := at_new w Z 23
  have bz : Below w.heap.size w (w.alloc (.cells Z 23)) := (Below.refl _ _).alloc (Nat.le_refl _) _
  have ZS := Lib.hid zs; have DS := Lib.hid ds; have DO := Lib.hid dO; have BN := Lib.hid bn; have AZ := Lib.hid az; have BZ := Lib.hid bz
  have g0 : ¬ (p : Int) < 1 := by omega
  have g1 : ¬ (216 : Int) < (p : Int) := by omega
  clear zs ds dO bn az bz hZ hD
  go_enter Try.func7, Try.ntmps7
  go_upto_region 1 with fail
  clear hx
  generalize w.alloc (.cells Z 23) = w1 at *
  go_wp2_with (first
    | (refine Mem.wpList_build (by rfl) 23 _ #[(0, .int .i64 (p : Int))] (.agg D) (by rfl) (by simp [Act.eval]) BN.out ?_)
    | (refine wpList_store_all (by rfl) 23 _ _ (by rfl) (by rfl) w.heap.size D (by rfl) (by rfl) (by rw [DS.out]; exact infoPS) Z 23 AZ.out (by rw [DS.out, ZS.out]) DO.out ?_))
  try simp only [Exit.inBlock, Exit.then]
  refine ret_row_tmp (by rfl) w.heap.size 23 D _ _ (by rfl) (by rfl) (AZ.out.row D) Try.underlying23 (by rfl) (by rw [DS.out]; exact infoPS) ?_
  exact ⟨rfl, below_row BZ.out (Nat.le_refl _) D⟩
theorem ppages_any (p : Nat) (w : World) : Calls Try.prog 9 #[.agg (psC p)] w (VEnd (.int .i64 (p : Int)) w) := by
  have c0 : (w.alloc (.cells (psC p) 23)).cell? ⟨w.heap.size, 0, none⟩ = some (.int .i64 (p : Int)) := ((at_new w (psC p) _).cell 0).trans rfl
  have hb : Below w.heap.size w (w.alloc (.cells (psC p) 23)) := (Below.refl _ _).alloc (Nat.le_refl _) _
  have ms : (psC p).size = 1 := rfl
  obtain ⟨M, hM⟩ : ∃ M, M = psC p := ⟨_, rfl⟩
  rw [← hM] at c0 hb ms ⊢
  have HB := Lib.hid hb; have MS := Lib.hid ms
  clear hb ms hM
  go_enter Try.func9, Try.ntmps9
  go_wp2_with fail
  go_ret
  exact ⟨rfl, HB.out⟩
end Sha
end Go.Proofs.Ytbboljmemomcnaa
