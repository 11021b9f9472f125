/- Layer 12: what the program's functions are asked to do (contracts over its Shape value). The program's shape: isWithin, nodesOver, New, Pages, levels. Package pack's areZeros. -/
import Derived.Test.YtajdpbbbocnfiaaDoorBx14
import Derived.Test.YtajdpbbbocnfiaaDoorBx08
import Derived.Test.YtajdpbbbocnfiaaDoorBx03
import Derived.Deep.DeepCutAuto
import Derived.OwnWalk
import Derived.StillTailTactics
import Derived.Test.YtajdpbbbocnfiaaDoorBx09
namespace Go.Proofs.YtajdpbbbocnfiaaDoor
namespace Sha
open Go.RowKit Mem
def blksP (p : Nat) : Int := if p = 0 then 0 else 2 + 2 * (itn p : Int)
def lvsP (p : Nat) : Int := if p = 0 then 0 else (topn p : Int) + 1
def lvlP (p : Nat) (z : Int) : Int := if 0 ≤ z ∧ z < (itn p : Int) then (lev p z.toNat : Int) else -1
/-- It returns this value, and leaves what was. -/
def VEnd (v : Value) (w : World) (e : Ending) (w' : World) : Prop := e = .returned v ∧ Below w.heap.size w w'
theorem SlI.hd0 {w : World} {v : Value} (h : SlI w v []) : ∃ a c, v = .slice a 0 c := let ⟨a, c, e⟩ := h.hd; ⟨a, c, e⟩
theorem SlI.hdn {w : World} {v : Value} {l : List Int} {n : Nat} (h : SlI w v l) (hn : l.length = n) : ∃ a c, v = .slice a n c := let ⟨a, c, e⟩ := h.hd; ⟨a, c, by rw [e, hn]⟩
theorem OIEnd.I {w w' : World} {L : List Int} {e : Ending} (h : OIEnd w L e w') : IEnd w L e w' := let ⟨v, e, ho, hb⟩ := h; ⟨v, e, ownV_sli ho, hb⟩
end Sha
end Go.Proofs.YtajdpbbbocnfiaaDoor
namespace Go.Proofs.YtajdpbbbocnfiaaDoor
namespace Mem
open Go.RowKit
/-- A slice cut to its length (three indices, none below). -/
theorem wpList_slice_max {P : Program} {ops : Array Oper} {rest : List Oper} {op : Oper} {a : Act} {w : World} {Q : Exit → Act → World → Prop} (hgd : op.guard = none) (ty : TypeId) (x i j : Operand) (ho : op.op = .slice ty x none (some i) (some j))
    (elem : TypeId) (hu : P.underlying ty = some (.slice elem)) (z : Nat) (hs : (P.info? elem).map (·.size) = some z) (b o len cap k : Nat) (hx : a.eval x = .slice (some ⟨b, o, none⟩) len cap) (hi : a.eval i = .int .i64 (k : Int)) (hj : a.eval j = .int .i64 (k : Int)) (hk : k ≤ cap)
    (h : wpList P ops Q rest (a.put op.dst (.slice (some ⟨b, o, none⟩) k k)) w) : wpList P ops Q (op :: rest) a w := by
  refine wpList_plain hgd fun K hK => ?_
  cases hq : P.info? elem with
  | none => simp [hq] at hs
  | some q =>
    have hkl : (k : Int) ≤ (cap : Int) := by omega
    have hrun : (Instr.slice ty (.slice (some ⟨b, o, none⟩) len cap) none (some (.int .i64 (k : Int))) (some (.int .i64 (k : Int)))).run P w = .ok (.slice (some ⟨b, o, none⟩) k k) w := by
      simp [Instr.slice, Instr.sliceBounds, Instr.sliceBound, asIntOf, Sem.run_bind, run_underlying hu, sizeOf, typeInfo, hq, hk, Addr.add_mid]
    have hat : (Instr.sliceAt ty (.slice (some ⟨b, o, none⟩) len cap) none (some (.int .i64 (k : Int))) (some (.int .i64 (k : Int)))).run P w = .ok (.slice (some ⟨b, o, none⟩) k k) w := by
      simp [Instr.sliceAt, Sem.run_bind, run_underlying hu, hrun]
    unfold Oper.wp execOp
    simp only [ho, hx, hi, hj, Option.map_some, Option.map_none, Sem.run_bind, hat, Result.andThen_ok, Sem.run_pure]
    exact hK _ _ h
end Mem
namespace Sha
open Go.RowKit Mem
set_option maxRecDepth 100000
/-- It returns this value in the same world. -/
def QEnd (v : Value) (w : World) (e : Ending) (w' : World) : Prop := e = .returned v ∧ w' = w
theorem within_any (z f m : Int) (w : World) (h0 : 0 ≤ f) (h1 : 0 ≤ m) (h2 : f + m < 4000000000) : Calls Tryd.prog 48 #[.int .i64 z, .int .i64 f, .int .i64 m] w (QEnd (.bool (decide (f ≤ z ∧ z < f + m))) w) := by
  by_cases a : f ≤ z
  · by_cases b : z < f + m
    · rw [show decide (f ≤ z ∧ z < f + m) = true from decide_eq_true ⟨a, b⟩]
      go_enter Tryd.func48, Tryd.ntmps48
      go_wp2_with fail
      go_ret
      exact ⟨rfl, rfl⟩
    · rw [show decide (f ≤ z ∧ z < f + m) = false from decide_eq_false (fun h => b h.2)]
      go_enter Tryd.func48, Tryd.ntmps48
      go_wp2_with fail
      go_ret
      exact ⟨rfl, rfl⟩
  · rw [show decide (f ≤ z ∧ z < f + m) = false from decide_eq_false (fun h => a h.1)]
    go_enter Tryd.func48, Tryd.ntmps48
    go_wp2_with fail
    go_ret
    exact ⟨rfl, rfl⟩
theorem nodes_any (m : Nat) (w : World) (h : m ≤ 216) : Calls Tryd.prog 47 #[.int .i64 (m : Int)] w (QEnd (.int .i64 (cnt m : Nat)) w) := by
  have h6 : ((m : Int) + 6 - 1) / 6 = ((cnt m : Nat) : Int) := by unfold cnt; omega
  have H6 := Lib.hid h6
  clear h6
  go_enter Tryd.func47, Tryd.ntmps47
  go_wp2_with fail
  go_ret
  exact ⟨by rw [← H6.out]; go_num, rfl⟩
/-- The program's shape as one value. -/
def psC (p : Nat) : Array Value := #[.int .i64 (p : Int)]
theorem psC_one (p : Nat) : (psC p).all (·.oneCell') = true := by simp [psC, Value.oneCell']
theorem infoPS : (Tryd.prog.info? 30).map (·.size) = some 1 := by kernel_rfl
theorem zeroPS (w : World) : (zeroValue 30).run Tryd.prog w = .ok (.agg (psC 0)) w := by kernel_rfl
theorem buildPS0 (w : World) : (Instr.build 30 #[]).run Tryd.prog w = .ok (.agg (psC 0)) w := by kernel_rfl
theorem buildPS (p : Nat) (w : World) : (Instr.build 30 #[(0, .int .i64 (p : Int))]).run Tryd.prog w = .ok (.agg (psC p)) w := by kernel_rfl
theorem pnew_bad (z : Int) (w : World) (h : z < 1 ∨ 216 < z) : Calls Tryd.prog 18 #[.int .i64 z] w fun e w' => e = .returned (.tuple #[.agg (psC 0), .int .i64 1]) ∧ Below w.heap.size w w' := by
  obtain ⟨Z, hZ⟩ : ∃ Z, Z = psC 0 := ⟨_, rfl⟩
  have zs : Z.size = 1 := by rw [hZ]; rfl
  have zo : Z.all (·.oneCell') = true := by rw [hZ]; exact psC_one 0
  have hx : ∀ w, (zeroValue 30).run Tryd.prog w = .ok (.agg Z) w := by rw [hZ]; exact zeroPS
  have bn : ∀ w, (Instr.build 30 #[]).run Tryd.prog w = .ok (.agg Z) w := by rw [hZ]; exact buildPS0
  rw [← hZ]
  have az := at_new w Z 30
  have bz : Below w.heap.size w (w.alloc (.cells Z 30)) := (Below.refl _ _).alloc (Nat.le_refl _) _
  have ZS := Lib.hid zs; have ZO := Lib.hid zo; have BN := Lib.hid bn; have AZ := Lib.hid az; have BZ := Lib.hid bz
  clear zs zo bn az bz hZ
  by_cases h0 : z < 1
  · go_enter Tryd.func18, Tryd.ntmps18
    go_upto_region 1 with fail
    clear hx
    generalize w.alloc (.cells Z 30) = w1 at *
    go_wp2_with (first
      | (refine Mem.wpList_build (by rfl) 30 _ #[] (.agg Z) (by rfl) (by simp) BN.out ?_)
      | (refine wpList_store_all (by rfl) 30 _ _ (by rfl) (by rfl) w.heap.size Z (by rfl) (by rfl) (by rw [ZS.out]; exact infoPS) Z 30 AZ.out (by rfl) ZO.out ?_))
    try simp only [Exit.inBlock, Exit.then]
    refine ret_row_tmp (by rfl) w.heap.size 30 Z _ _ (by rfl) (by rfl) (AZ.out.row Z) Tryd.underlying30 (by rfl) (by rw [ZS.out]; exact infoPS) ?_
    exact ⟨rfl, below_row BZ.out (Nat.le_refl _) Z⟩
  · have h1 : 216 < z := by omega
    clear h
    go_enter Tryd.func18, Tryd.ntmps18
    go_upto_region 1 with fail
    clear hx
    generalize w.alloc (.cells Z 30) = w1 at *
    go_wp2_with (first
      | (refine Mem.wpList_build (by rfl) 30 _ #[] (.agg Z) (by rfl) (by simp) BN.out ?_)
      | (refine wpList_store_all (by rfl) 30 _ _ (by rfl) (by rfl) w.heap.size Z (by rfl) (by rfl) (by rw [ZS.out]; exact infoPS) Z 30 AZ.out (by rfl) ZO.out ?_))
    try simp only [Exit.inBlock, Exit.then]
    refine ret_row_tmp (by rfl) w.heap.size 30 Z _ _ (by rfl) (by rfl) (AZ.out.row Z) Tryd.underlying30 (by rfl) (by rw [ZS.out]; exact infoPS) ?_
    exact ⟨rfl, below_row BZ.out (Nat.le_refl _) Z⟩
theorem pnew_good (p : Nat) (w : World) (h0 : 1 ≤ p) (h1 : p ≤ 216) : Calls Tryd.prog 18 #[.int .i64 (p : Int)] w fun e w' => e = .returned (.tuple #[.agg (psC p), .int .i64 0]) ∧ Below w.heap.size w w' := by
  obtain ⟨Z, hZ⟩ : ∃ Z, Z = psC 0 := ⟨_, rfl⟩
  obtain ⟨D, hD⟩ : ∃ D, D = psC p := ⟨_, rfl⟩
  have zs : Z.size = 1 := by rw [hZ]; rfl
  have ds : D.size = 1 := by rw [hD]; rfl
  have dO : D.all (·.oneCell') = true := by rw [hD]; exact psC_one p
  have hx : ∀ w, (zeroValue 30).run Tryd.prog w = .ok (.agg Z) w := by rw [hZ]; exact zeroPS
  have bn : ∀ w, (Instr.build 30 #[(0, .int .i64 (p : Int))]).run Tryd.prog w = .ok (.agg D) w := by rw [hD]; exact buildPS p
  rw [← hD]
  have az := at_new w Z 30
  have bz : Below w.heap.size w (w.alloc (.cells Z 30)) := (Below.refl _ _).alloc (Nat.le_refl _) _
  have ZS := Lib.hid zs; have DS := Lib.hid ds; have DO := Lib.hid dO; have BN := Lib.hid bn; have AZ := Lib.hid az; have BZ := Lib.hid bz
  have g0 : ¬ (p : Int) < 1 := by omega
  have g1 : ¬ (216 : Int) < (p : Int) := by omega
  clear zs ds dO bn az bz hZ hD
  go_enter Tryd.func18, Tryd.ntmps18
  go_upto_region 1 with fail
  clear hx
  generalize w.alloc (.cells Z 30) = w1 at *
  go_wp2_with (first
    | (refine Mem.wpList_build (by rfl) 30 _ #[(0, .int .i64 (p : Int))] (.agg D) (by rfl) (by simp [Act.eval]) BN.out ?_)
    | (refine wpList_store_all (by rfl) 30 _ _ (by rfl) (by rfl) w.heap.size D (by rfl) (by rfl) (by rw [DS.out]; exact infoPS) Z 30 AZ.out (by rw [DS.out, ZS.out]) DO.out ?_))
  try simp only [Exit.inBlock, Exit.then]
  refine ret_row_tmp (by rfl) w.heap.size 30 D _ _ (by rfl) (by rfl) (AZ.out.row D) Tryd.underlying30 (by rfl) (by rw [DS.out]; exact infoPS) ?_
  exact ⟨rfl, below_row BZ.out (Nat.le_refl _) D⟩
theorem ppages_any (p : Nat) (w : World) : Calls Tryd.prog 24 #[.agg (psC p)] w (VEnd (.int .i64 (p : Int)) w) := by
  have c0 : (w.alloc (.cells (psC p) 30)).cell? ⟨w.heap.size, 0, none⟩ = some (.int .i64 (p : Int)) := ((at_new w (psC p) _).cell 0).trans rfl
  have hb : Below w.heap.size w (w.alloc (.cells (psC p) 30)) := (Below.refl _ _).alloc (Nat.le_refl _) _
  have ms : (psC p).size = 1 := rfl
  obtain ⟨M, hM⟩ : ∃ M, M = psC p := ⟨_, rfl⟩
  rw [← hM] at c0 hb ms ⊢
  have HB := Lib.hid hb; have MS := Lib.hid ms
  clear hb ms hM
  go_enter Tryd.func24, Tryd.ntmps24
  go_wp2_with fail
  go_ret
  exact ⟨rfl, HB.out⟩
end Sha
end Go.Proofs.YtajdpbbbocnfiaaDoor
namespace Go.Proofs.YtajdpbbbocnfiaaDoor
namespace Sha
open Go.RowKit Mem
set_option maxRecDepth 100000 in
set_option maxHeartbeats 1000000 in
theorem areZeros_any (l : List (BitVec 8)) (v : Value) (w : World) (bl : l.length ≤ 9223372036854775807) (hv : Sl w v l) :
    Calls Tryd.prog 87 #[v] w fun e w' => e = .returned (.bool (allZ l)) ∧ w = w' := by
  have hv0 := hv
  obtain ⟨a0, cap, rfl, _, _⟩ := hv
  obtain ⟨m, hm⟩ : ∃ m, m = l.length := ⟨_, rfl⟩
  rw [← hm] at bl
  have HV := Lib.hid hv0; have HM := Lib.hid hm
  rw [← hm]
  clear hv0 hm
  go_enter Tryd.func87, Tryd.ntmps87
  go_wp2_with fail
  go_loop [7] (fun i => ∃ j : Nat, j ≤ m ∧ i = .int .i64 j ∧ Hid (allZ (l.take j) = true)) (fun i => m - (intOf i).toNat)
  case atStart => exact ⟨0, by omega, rfl, (by show allZ (l.take 0) = true; rfl)⟩
  case round =>
    obtain ⟨j, hj, rfl, hI⟩ := hrel
    by_cases hlt : j < m
    · obtain ⟨b1, o1, rfl, cx⟩ := sl_at (i := j) HV.out (by rw [← HM.out]; exact hlt)
      have hlt' : (j : Int) < (m : Int) := by omega
      have htk : l.take (j + 1) = l.take j ++ [l.getD j 0] := by
        have hjl : j < l.length := by rw [← HM.out]; exact hlt
        rw [List.take_succ_eq_append_getElem hjl]; simp [hjl]
      by_cases hx : l.getD j 0 = 0
      · have hnx : allZ (l.take (j + 1)) = true := by
          rw [htk, hx]; unfold allZ; rw [List.all_append]; have := hI.out; unfold allZ at this; rw [this]; rfl
        rw [hx, B8_zero] at cx
        have NX := Lib.hid hnx
        clear hnx htk hx hI
        go_wp2
        go_round
        case rel => exact ⟨j + 1, by omega, by go_num, NX.out⟩
        case measure => simp [intOf]; omega
      · have hno : allZ l = false := by
          unfold allZ
          rw [Bool.eq_false_iff]
          intro h
          have hjl : j < l.length := by rw [← HM.out]; exact hlt
          have := List.all_eq_true.1 h (l.getD j 0) (by simp [hjl])
          exact hx (by simpa using this)
        obtain ⟨x, hxx⟩ : ∃ x, x = l.getD j 0 := ⟨_, rfl⟩
        rw [← hxx] at cx hx
        have hbn : ¬ B8 x = 0 := fun h => hx (by have h2 := B8_eq x; rw [h] at h2; simpa using h2.symm)
        have hbe : (B8 x != 0) = true := by rw [bne_iff_ne]; exact hbn
        have NO := Lib.hid hno
        clear hno htk hx hI hxx
        go_wp2
        go_ret
        exact ⟨by rw [NO.out]; rfl, rfl⟩
    · have hjm : j = m := by omega
      have hge : ¬ (j : Int) < (m : Int) := by omega
      have hall : Hid (allZ l = true) := by
        have h := hI.out
        rw [hjm, HM.out, List.take_length] at h
        exact h
      clear hjm hlt hj hI
      go_wp2
      go_ret
      exact ⟨by rw [hall.out]; rfl, rfl⟩
end Sha
end Go.Proofs.YtajdpbbbocnfiaaDoor
