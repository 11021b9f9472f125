/- bytes.Clone: what it tells lies in a block of its own. -/
import Derived.Test.YteiffdccfmfdbaaSlB
import Derived.Test.YteiffdccfmfdbaaApp
import Derived.Test.YteiffdccfmfdbaaPlan3
import Derived.Lib.SliceRun
namespace Go.Proofs.Yteiffdccfmfdbaa
namespace Sha
open Go.RowKit Mem
set_option maxRecDepth 100000 in
set_option maxHeartbeats 1000000 in
/-- bytes.Clone: its own text is walked. -/
theorem pclone_any (l : List (BitVec 8)) (v : Value) (w : World) (bl : l.length ≤ 1000000) (hv : Sl w v l) : Calls Try.prog 28 #[v] w (PadEnd w l) := by
  have q22 : ∀ (w : World) (a : Option Addr) (n c n' c' : Nat), (binOp .eql 32 (.slice a n c) (.slice none n' c')).run Try.prog w = .ok (.bool a.isNone) w := fun w a n c n' c' => Lib.run_eql_slice_nil w _ _ a n c n' c' Try.underlying32
  have hv0 := hv
  obtain ⟨a0, cap, rfl, _, hr⟩ := hv
  obtain ⟨m, hm⟩ : ∃ m, m = l.length := ⟨_, rfl⟩
  cases a0 with
  | none =>
    have hl : l = [] := by
      rcases l with _ | ⟨x, l⟩
      · rfl
      · obtain ⟨_, _, h, _⟩ := hr (by simp)
        cases h
    subst hl
    clear hr hv0 hm
    go_enter Try.func28, Try.ntmps28
    go_wp2
    go_ret
    exact ⟨_, rfl, OwnB.nil _ _, Below.refl _ _⟩
  | some ad =>
    have hsl : Sl (w.alloc (.cells #[] 5)) (.slice (some ad) l.length cap) l := hv0.below ((Below.refl _ _).alloc (Nat.le_refl _) _)
    have hb0 : Below w.heap.size w (w.alloc (.cells #[] 5)) := (Below.refl _ _).alloc (Nat.le_refl _) _
    have how : OwnB (w.alloc (.cells #[] 5)) w.heap.size (.slice (some ⟨w.heap.size, 0, none⟩) 0 0) [] := own_none w w.heap.size (Nat.le_refl _)
    rw [← hm] at bl hsl ⊢
    have HV := Lib.hid hsl; have HM := Lib.hid hm; have HB := Lib.hid hb0; have HO := Lib.hid how
    clear hv0 hm hr hsl hb0 how
    go_enter Try.func28, Try.ntmps28
    go_wp2_with (at_builtin; refine wpList_append_bytes (by rfl) _ _ (by rfl) w.heap.size (.slice (some ⟨w.heap.size, 0, none⟩) 0 0) (.slice (some ad) m cap) [] l (by rfl) HO.out (by rfl) HV.out (by rw [List.length_nil, ← HM.out]; omega) (by simp) ?_; intro v5 w5 ho5 _ hb5; have O5 := Lib.hid ho5; have B5 := Lib.hid (HB.out.trans hb5); clear ho5 hb5)
    go_ret
    exact ⟨_, rfl, by simpa using O5.out, B5.out⟩
end Sha
end Go.Proofs.Yteiffdccfmfdbaa
