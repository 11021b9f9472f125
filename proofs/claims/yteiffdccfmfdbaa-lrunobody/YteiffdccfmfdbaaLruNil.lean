/- The program's cache: what nobody made (no pointer, or a cache of no room) answers, method by method. -/
import Derived.Test.YteiffdccfmfdbaaLruPMore
import Derived.Test.YteiffdccfmfdbaaLruPEnd
import Derived.Test.YteiffdccfmfdbaaLruPPin
import Derived.Shelf.SlIterI.Nil
namespace Go.Proofs.Yteiffdccfmfdbaa
namespace Sha
open Go.RowKit Mem Lru Go.Maps Go.Sort Go.Shelf
section
variable {P : Program} {ops : Array Oper} {Q : Exit → Act → World → Prop} {rest : List Oper} {a : Act} {w : World} {o : Oper}
/-- 'v, ok := m[k]' where there is no map. -/
theorem wpList_nil_look_ok (hw : Region.wanted o (yielded ops a.tmps) = true) (t : TypeId) (m x : Operand) (hop : o.op = .lookup t m x true) (c : Int)
    (hm : a.eval m = .map none) (hx : a.eval x = .int .i64 c) (z : Value) (hr : (Instr.lookup t (.map none) (.int .i64 c) true).run P w = .ok (.tuple #[z, .bool false]) w)
    (h : wpList P ops Q rest (a.put o.dst (.tuple #[z, .bool false])) w) : wpList P ops Q (o :: rest) a w := by
  unfold wpList
  rw [if_pos hw]
  left
  unfold Oper.wp
  have : (execOp a.eval o).run P w = .ok (.value (.tuple #[z, .bool false])) w := by
    simp [execOp, hop, hm, hx, hr, Result.andThen]
  rw [this]
  exact h
end
set_option maxRecDepth 100000 in
theorem nil_look1 (x : Int) (w : World) : (Instr.lookup 54 (.map none) (.int .i64 x) true).run Try.prog w = .ok (.tuple #[.slice none 0 0, .bool false]) w := by kernel_rfl
set_option maxRecDepth 100000 in
theorem nil_look2 (x : Int) (w : World) : (Instr.lookup 57 (.map none) (.int .i64 x) true).run Try.prog w = .ok (.tuple #[.agg #[], .bool false]) w := by kernel_rfl
def zcC : Array Value := #[.int .i64 0, .map none, .map none, .slice none 0 0]
/-- A cache that nobody made. -/
def NoB (w : World) (v : Value) : Prop := v = .pointer none ∨ ∃ b, v = .pointer (some ⟨b, 0, none⟩) ∧ At w b zcC 59
theorem NoB.below {w w' : World} {v : Value} (h : NoB w v) (hb : Below w.heap.size w w') : NoB w' v := by
  rcases h with h | ⟨b, e, h⟩
  · exact .inl h
  · exact .inr ⟨b, e, h.below hb h.lt⟩
section
variable {w : World} {v : Value}
set_option maxRecDepth 100000
set_option maxHeartbeats 1000000
theorem nroom (h : NoB w v) : Calls Try.prog 23 #[v] w fun e w' => e = .returned (.int .i64 0) ∧ w' = w := by
  rcases h with rfl | ⟨b, rfl, h⟩
  · go_enter Try.func23, Try.ntmps23
    go_wp2_with fail
    go_ret
    exact ⟨rfl, rfl⟩
  · have c0 : w.cell? ⟨b, 0, none⟩ = some (.int .i64 0) := by rw [h.cell]; rfl
    clear h
    go_enter Try.func23, Try.ntmps23
    go_wp2_with fail
    go_ret
    exact ⟨rfl, rfl⟩
theorem nlen (h : NoB w v) : Calls Try.prog 22 #[v] w fun e w' => e = .returned (.int .i64 0) ∧ w' = w := by
  rcases h with rfl | ⟨b, rfl, h⟩
  · go_enter Try.func22, Try.ntmps22
    go_wp2_with fail
    go_ret
    exact ⟨rfl, rfl⟩
  · have c1 : w.cell? ⟨b, 1, none⟩ = some (.map none) := by rw [h.cell]; rfl
    clear h
    go_enter Try.func22, Try.ntmps22
    go_wp2_with fail
    go_ret
    exact ⟨rfl, rfl⟩
theorem nhas (h : NoB w v) (x : Int) : Calls Try.prog 24 #[v, .int .i64 x] w fun e w' => e = .returned (.bool false) ∧ w' = w := by
  rcases h with rfl | ⟨b, rfl, h⟩
  · go_enter Try.func24, Try.ntmps24
    go_wp2_with fail
    go_ret
    exact ⟨rfl, rfl⟩
  · have c1 : w.cell? ⟨b, 1, none⟩ = some (.map none) := by rw [h.cell]; rfl
    clear h
    go_enter Try.func24, Try.ntmps24
    go_wp2_with (at_lookup; refine wpList_nil_look_ok (by rfl) 54 _ _ (by rfl) x (by rfl) (by rfl) (.slice none 0 0) (nil_look1 x _) ?_)
    go_ret
    exact ⟨rfl, rfl⟩
theorem nisp (h : NoB w v) (x : Int) : Calls Try.prog 33 #[v, .int .i64 x] w fun e w' => e = .returned (.bool false) ∧ Below w.heap.size w w' := by
  rcases h with rfl | ⟨b, rfl, h⟩
  · go_enter Try.func33, Try.ntmps33
    go_wp2_with fail
    go_ret
    exact ⟨rfl, Below.refl _ _⟩
  · have c1 : w.cell? ⟨b, 2, none⟩ = some (.map none) := by rw [h.cell]; rfl
    have ha : Below w.heap.size w (w.alloc (.cells #[] 69)) := (Below.refl _ _).alloc (Nat.le_refl _) _
    have BA := Lib.hid ha
    clear h ha
    go_enter Try.func33, Try.ntmps33
    go_wp2_with (at_lookup; refine wpList_nil_look_ok (by rfl) 57 _ _ (by rfl) x (by rfl) (by rfl) (.agg #[]) (nil_look2 x _) ?_)
    go_ret
    exact ⟨rfl, BA.out⟩
theorem ncheck (h : NoB w v) (x : Int) : Calls Try.prog 30 #[v, .int .i64 x] w fun e w' => e = .returned (.int .i64 2) ∧ w' = w := by
  have NR := Lib.hid (nroom h)
  clear h
  go_enter Try.func30, Try.ntmps30
  go_wp2_with (go_at_call 23; refine NR.out.mono ?_; rintro e w2 ⟨rfl, rfl⟩)
  go_ret
  exact ⟨rfl, rfl⟩
theorem nput (h : NoB w v) (x : Int) (u : Value) : Calls Try.prog 19 #[v, .int .i64 x, u] w fun e w' => e = .returned (.tuple #[.int .i64 (-1), .int .i64 2]) ∧ w' = w := by
  have NC := Lib.hid (ncheck h x)
  clear h
  go_enter Try.func19, Try.ntmps19
  go_wp2_with (go_at_call 30; refine NC.out.mono ?_; rintro e w2 ⟨rfl, rfl⟩)
  go_ret2
  exact ⟨rfl, rfl⟩
theorem npin (h : NoB w v) (x : Int) (u : Value) : Calls Try.prog 13 #[v, .int .i64 x, u] w fun e w' => e = .returned (.int .i64 2) ∧ w' = w := by
  have NC := Lib.hid (ncheck h x)
  clear h
  go_enter Try.func13, Try.ntmps13
  go_wp2_with (go_at_call 30; refine NC.out.mono ?_; rintro e w2 ⟨rfl, rfl⟩)
  go_ret
  exact ⟨rfl, rfl⟩
theorem nget (h : NoB w v) (x : Int) : Calls Try.prog 10 #[v, .int .i64 x] w fun e w' => e = .returned (.tuple #[.slice none 0 0, .bool false]) ∧ w' = w := by
  have NC := Lib.hid (nhas h x)
  clear h
  go_enter Try.func10, Try.ntmps10
  go_wp2_with (go_at_call 24; refine NC.out.mono ?_; rintro e w2 ⟨rfl, rfl⟩)
  go_ret2
  exact ⟨rfl, rfl⟩
theorem ndrop (h : NoB w v) (x : Int) : Calls Try.prog 17 #[v, .int .i64 x] w fun e w' => e = .returned (.bool false) ∧ w' = w := by
  have NC := Lib.hid (nhas h x)
  clear h
  go_enter Try.func17, Try.ntmps17
  go_wp2_with (go_at_call 24; refine NC.out.mono ?_; rintro e w2 ⟨rfl, rfl⟩)
  go_ret
  exact ⟨rfl, rfl⟩
theorem nunpin (h : NoB w v) (x : Int) : Calls Try.prog 15 #[v, .int .i64 x] w fun e w' => e = .returned (.tuple #[.int .i64 (-1), .bool false]) ∧ Below w.heap.size w w' := by
  have NC := Lib.hid (nisp h x)
  clear h
  go_enter Try.func15, Try.ntmps15
  go_wp2_with (go_at_call 33; refine NC.out.mono ?_; rintro e w2 ⟨rfl, hb⟩; have B2 := Lib.hid hb; clear hb)
  go_ret2
  exact ⟨rfl, B2.out⟩
theorem norder (h : NoB w v) : Calls Try.prog 21 #[v] w fun e w' => (∃ a c, e = .returned (.slice a 0 c)) ∧ Below w.heap.size w w' := by
  rcases h with rfl | ⟨b, rfl, h⟩
  · go_enter Try.func21, Try.ntmps21
    go_wp2_with fail
    go_ret
    exact ⟨⟨_, _, rfl⟩, Below.refl _ _⟩
  · have c3 : w.cell? ⟨b, 3, none⟩ = some (.slice none 0 0) := by rw [h.cell]; rfl
    have hcl := pcloneI_any [] (.slice none 0 0) w ⟨none, 0, rfl, Nat.le_refl _, fun h => absurd rfl h⟩ (by simp)
    have CL := Lib.hid hcl
    clear hcl h
    go_enter Try.func21, Try.ntmps21
    go_wp2_with fail
    refine CL.out.mono ?_
    rintro e w2 ⟨v2, rfl, ho, hb⟩
    have hr := prevI_any [] v2 w2 ho
    have hlt := World.ownsRow.lt ho
    have HR := Lib.hid hr; have B2 := Lib.hid hb; have LT := Lib.hid hlt
    obtain ⟨a2, c2, hvv⟩ := rows_hd ho
    have hvv : v2 = .slice a2 0 c2 := hvv
    have HV := Lib.hid hvv
    clear hr hb ho hlt CL c3 hvv
    rw [HV.out] at HR LT ⊢
    go_wp2_with (go_at_call 39; refine HR.out.mono ?_; rintro e w3 ⟨rfl, ho3, ht3⟩; have T3 := Lib.hid ht3; clear ho3 ht3)
    go_ret
    exact ⟨⟨_, _, rfl⟩, T3.out.chg.below B2.out (fun k hk => (LT.out k hk).1) B2.out.size⟩
theorem npinned (h : NoB w v) : Calls Try.prog 26 #[v] w fun e w' => (∃ a c, e = .returned (.slice a 0 c)) ∧ Below w.heap.size w w' := by
  rcases h with rfl | ⟨b, rfl, h⟩
  · go_enter Try.func26, Try.ntmps26
    go_wp2_with fail
    go_ret
    exact ⟨⟨_, _, rfl⟩, Below.refl _ _⟩
  · have c2 : w.cell? ⟨b, 2, none⟩ = some (.map none) := by rw [h.cell]; rfl
    clear h
    refine (callsIn_wide (n := 6)).1 ?_
    have hseq : SeqGives Fence.wide 2 Try.prog 46 #[.pointer (some ⟨w.heap.size, 0, none⟩)] encZ (fun ss => ss = []) 0 (w.alloc (.cells #[.map none] 57)) :=
      AnyZI.keys_gives_nil (ρ := lKeys_ren) { lKeys with } Fence.wide _ trivial rfl w.heap.size _ (by simp) (by simp)
    have cK : ∀ mb W, CallsIn Fence.wide 5 Try.prog 41 #[.map mb] W fun e w' => e = .returned (.func (.func 46) #[] #[.pointer (some ⟨W.heap.size, 0, none⟩)]) ∧ w' = W.alloc (.cells #[.map mb] 57) := fun mb W => AnyZI.keys_in lKeys Fence.wide 5 trivial rfl mb W
    have cS := AnyZI.sorted_in lSorted Fence.wide 5 trivial trivial trivial trivial rfl (by omega) (pSorts _) (enters_of Try.func45 (by kernel_rfl) rfl) 46 #[.pointer (some ⟨w.heap.size, 0, none⟩)] trivial (enters_of Try.func46 (by kernel_rfl) rfl) _ _ (by unfold maxLen; omega) (by omega) _ hseq
    change CallsIn _ _ Try.prog 40 _ _ _ at cS
    have CK := Lib.hid cK; have CS := Lib.hid cS
    clear cK cS hseq
    have hfK : Fence.wide.fn 41 := trivial
    have hfS : Fence.wide.fn 40 := trivial
    refine callsIn_of_wp Try.func26 rfl trivial ?_ rfl
    simp only [Try.ntmps26, List.size_toArray, List.length_cons, List.length_nil, Nat.reduceAdd, Nat.reduceSub, Array.replicate_succ, Array.replicate_zero, List.push_toArray, List.append_toArray, List.nil_append, List.cons_append]
    gi_wp2_with (first
      | (gi_at_call 41; refine (CK.out _ _).mono ?_; rintro e w' ⟨rfl, rfl⟩)
      | (gi_at_call 40; refine CS.out.mono ?_; rintro e w' ⟨v9, ss, rfl, hS, hrow, _, hb⟩))
    go_ret
    subst hS
    obtain ⟨a, c, rfl⟩ := rows_hd hrow
    exact ⟨⟨a, c, rfl⟩, ((Below.refl _ w).alloc (Nat.le_refl _) _).trans (hb.mono (by simp))⟩
end
end Sha
end Go.Proofs.Yteiffdccfmfdbaa
