/- The document's meter: Reserve and Done. -/
import Derived.Test.YtmpibofkihfiiaaEpUse
import Derived.Test.YtmpibofkihfiiaaApp
namespace Go.Proofs.Ytmpibofkihfiiaa
namespace Sha
open Go.RowKit Mem
/-- What a meter knows. -/
structure Mtr where
  last : Int
  now : Int
  l : List EU
def Most : Int := 4294967295
/-- Reserve, Done, Use: the meter behind the call, and the answers. -/
def Mtr.reserve (m : Mtr) : Mtr × Int × Int :=
  if m.now ≠ 0 then (m, 0, 7) else if m.last = Most then (m, 0, 20) else ({ m with last := m.last + 1, now := m.last + 1 }, m.last + 1, 0)
def Mtr.done (m : Mtr) : Mtr × Int := if m.now = 0 then (m, 1) else ({ m with now := 0 }, 0)
def Mtr.use (m : Mtr) (b : Int) : Mtr × Int :=
  if m.now = 0 ∨ b < 0 then (m, 1) else if (m.now, b) ∈ m.l then (m, 7) else ({ m with l := m.l ++ [(m.now, b)] }, 0)
def rmC (last now : Int) (v : Value) : Array Value := #[.int .u32 last, .int .u32 now, v]
theorem infoU32' : (Try.prog.info? 22).map (·.size) = some 1 := by kernel_rfl
abbrev mq (g : Nat) : Value := .pointer (some ⟨g, 0, none⟩)
set_option maxRecDepth 100000 in
set_option maxHeartbeats 1000000 in
theorem rdone_any {g : Nat} (last now : Int) (v : Value) (w : World) (h : At w g (rmC last now v) 28) :
    Calls Try.prog 11 #[mq g] w fun e w' => e = .returned (.int .i64 (if now = 0 then 1 else 0)) ∧ At w' g (rmC last 0 v) 28 ∧ (∀ k, k ≠ g → w'.heap[k]? = w.heap[k]?) ∧ ∀ B a, Below B a w → B ≤ g → Below B a w' := by
  have c1 : w.cell? ⟨g, 1, none⟩ = some (.int .u32 now) := by rw [h.cell]; rfl
  have H := Lib.hid h
  clear h
  by_cases g1 : now = 0
  · subst g1
    go_enter Try.func11, Try.ntmps11
    go_wp2_with fail
    go_ret
    exact ⟨by simp, H.out, fun _ _ => rfl, fun _ _ h _ => h⟩
  · go_enter Try.func11, Try.ntmps11
    go_wp2_with (first
      | (refine Mem.wpList_store_one (by rfl) 22 _ _ (by rfl) (by rfl) g 1 (.int .u32 0) (by rfl) (by rfl) (by rfl) infoU32' _ 28 H.out (by simp [rmC]) ?_; intro w8 ha ho hk; have A8 := Lib.hid ha; have O8 := Lib.hid ho; have K8 := Lib.hid hk; clear ha ho hk))
    go_ret
    exact ⟨by simp, by have := A8.out; simpa [rmC] using this, O8.out, K8.out⟩
set_option maxRecDepth 100000 in
set_option maxHeartbeats 1000000 in
theorem rreserve_any {g : Nat} (last now : Int) (v : Value) (w : World) (h : At w g (rmC last now v) 28) (hl0 : 0 ≤ last) (hl1 : last ≤ 4294967295) (l : List EU) :
    Calls Try.prog 10 #[mq g] w fun e w' => e = .returned (.tuple #[.int .u32 (Mtr.reserve ⟨last, now, l⟩).2.1, .int .i64 (Mtr.reserve ⟨last, now, l⟩).2.2]) ∧
      At w' g (rmC (Mtr.reserve ⟨last, now, l⟩).1.last (Mtr.reserve ⟨last, now, l⟩).1.now v) 28 ∧ (∀ k, k ≠ g → w'.heap[k]? = w.heap[k]?) ∧ ∀ B a, Below B a w → B ≤ g → Below B a w' := by
  have c0 : w.cell? ⟨g, 0, none⟩ = some (.int .u32 last) := by rw [h.cell]; rfl
  have c1 : w.cell? ⟨g, 1, none⟩ = some (.int .u32 now) := by rw [h.cell]; rfl
  have H := Lib.hid h
  clear h
  by_cases g1 : now = 0
  · subst g1
    by_cases g2 : last = 4294967295
    · subst g2
      go_enter Try.func10, Try.ntmps10
      go_wp2_with fail
      go_ret2
      exact ⟨by simp [Mtr.reserve, Most], by simpa [Mtr.reserve, Most] using H.out, fun _ _ => rfl, fun _ _ h _ => h⟩
    · have hlt : last < 4294967295 := by omega
      go_enter Try.func10, Try.ntmps10
      go_wp2_with (first
        | (refine Mem.wpList_store_one (by rfl) 22 _ _ (by rfl) (by rfl) g 0 (.int .u32 (last + 1)) (by rfl) (by rfl) (by rfl) infoU32' _ 28 H.out (by simp [rmC]) ?_; intro w8 ha ho hk; have A8 : Hid (At w8 g (rmC (last + 1) 0 v) 28) := Lib.hid (by have := ha; simpa [rmC] using this); have d0 : w8.cell? ⟨g, 0, none⟩ = some (.int .u32 (last + 1)) := (by rw [A8.out.cell]; rfl); have d1 : w8.cell? ⟨g, 1, none⟩ = some (.int .u32 0) := (by rw [A8.out.cell]; rfl); have O8 := Lib.hid ho; have K8 := Lib.hid hk; clear ha ho hk)
        | (refine Mem.wpList_store_one (by rfl) 22 _ _ (by rfl) (by rfl) g 1 (.int .u32 (last + 1)) (by rfl) (by rfl) (by rfl) infoU32' _ 28 A8.out (by simp [rmC]) ?_; intro w9 ha ho hk; have A9 : Hid (At w9 g (rmC (last + 1) (last + 1) v) 28) := Lib.hid (by have := ha; simpa [rmC] using this); have e1 : w9.cell? ⟨g, 1, none⟩ = some (.int .u32 (last + 1)) := (by rw [A9.out.cell]; rfl); have O9 := Lib.hid ho; have K9 := Lib.hid hk; clear ha ho hk))
      go_ret2
      have hm : ¬ last = Most := g2
      exact ⟨by simp [Mtr.reserve, hm], by simpa [Mtr.reserve, hm] using A9.out, fun k hk => (O9.out k hk).trans (O8.out k hk), fun B a hb hB => K9.out B a (K8.out B a hb hB) hB⟩
  · go_enter Try.func10, Try.ntmps10
    go_wp2_with fail
    go_ret2
    exact ⟨by simp [Mtr.reserve, g1], by simpa [Mtr.reserve, g1] using H.out, fun _ _ => rfl, fun _ _ h _ => h⟩
end Sha
end Go.Proofs.Ytmpibofkihfiiaa
