/- Layer 8's steps: a slice of them that reads as a list; its first two hundred. -/
import Derived.Test.YtmpibofkihfiiaaEpRef
namespace Go.Proofs.Ytmpibofkihfiiaa
namespace Sha
open Go.RowKit Mem
structure Step8 where
  k : BitVec 8
  b : Int
deriving Inhabited
def goodS8 (s : Step8) : Prop := (Lit.int .i64 s.b).wf = true
/-- A step's cells. -/
def stepC8 (s : Step8) : Array Value := #[.int .u8 (s.k.toNat : Int), .int .i64 s.b]
def SlS8 (w : World) (v : Value) (l : List Step8) : Prop :=
  ∃ a cap, v = .slice a l.length cap ∧ l.length ≤ cap ∧ (l ≠ [] → ∃ bb oo, a = some ⟨bb, oo, none⟩ ∧ bb < w.heap.size ∧ ∀ i, i < l.length → ∀ j, j < 2 → w.cell? ⟨bb, oo + (2 * i + j), none⟩ = (stepC8 (l.getD i default))[j]?)
theorem SlS8.below {w wr : World} {v : Value} {l : List Step8} (h : SlS8 w v l) (hb : Below w.heap.size w wr) : SlS8 wr v l := by
  obtain ⟨a, cap, e, hc, hr⟩ := h
  refine ⟨a, cap, e, hc, fun hne => ?_⟩
  obtain ⟨bb, oo, ea, hlt, hcell⟩ := hr hne
  exact ⟨bb, oo, ea, Nat.lt_of_lt_of_le hlt hb.size, fun i hi j hj => by rw [hb.cell (p := ⟨bb, oo + (2 * i + j), none⟩) hlt]; exact hcell i hi j hj⟩
theorem SlS8.take {w : World} {a : Option Addr} {n cap : Nat} {l : List Step8} (h : SlS8 w (.slice a n cap) l) (m : Nat) (hm : m ≤ l.length) : SlS8 w (.slice a m cap) (l.take m) := by
  obtain ⟨a', cap', e, hc, hr⟩ := h
  injection e with e1 _ e3
  subst e1; subst e3
  have hl : (l.take m).length = m := by rw [List.length_take]; omega
  refine ⟨a, cap, by rw [hl], by rw [hl]; omega, fun hne => ?_⟩
  obtain ⟨bb, oo, ea, hlt, hcell⟩ := hr (fun h0 => hne (by rw [h0]; simp))
  refine ⟨bb, oo, ea, hlt, fun i hi j hj => ?_⟩
  rw [hl] at hi
  rw [hcell i (by omega) j hj]
  simp [List.getD_eq_getElem?_getD, hi]
theorem slS8_at {w : World} {a : Option Addr} {n cap : Nat} {l : List Step8} (h : SlS8 w (.slice a n cap) l) {i : Nat} (hi : i < l.length) :
    ∃ b o, a = some ⟨b, o, none⟩ ∧ ∀ j, j < 2 → w.cell? ⟨b, o + (2 * i + j), none⟩ = (stepC8 (l.getD i default))[j]? := by
  obtain ⟨a', cap', e, _, hr⟩ := h
  injection e with e1 _ _
  obtain ⟨b, o, ea, _, hc⟩ := hr (by intro e; rw [e] at hi; simp at hi)
  exact ⟨b, o, by rw [e1]; exact ea, hc i hi⟩
theorem infoStep8 : (Try.prog.info? 31).map (·.size) = some 2 := by kernel_rfl
theorem slice_to2 (ty e : TypeId) (hu : Try.prog.underlying ty = some (.slice e)) (hs : (Try.prog.info? e).map (·.size) = some 2) (a0 : Option Addr) (len cap j : Nat) (hj : j ≤ len) (hc : len ≤ cap) (w : World) :
    (Instr.sliceAt ty (.slice a0 len cap) none (some (.int .i64 (j : Int))) none).run Try.prog w = .ok (.slice a0 j cap) w := by
  cases hq : Try.prog.info? e with
  | none => simp [hq] at hs
  | some q =>
    have hs1 : q.size = 2 := by simpa [hq] using hs
    have hjc : j ≤ cap := by omega
    have ha : (a0.map fun x => x.add 0) = a0 := by cases a0 <;> simp [Addr.add]
    simp [Instr.sliceAt, Instr.slice, Instr.sliceBounds, Instr.sliceBound, asIntOf, Sem.run_bind, run_underlying hu, sizeOf, typeInfo, hq, hjc, ha]
set_option maxHeartbeats 1000000 in
theorem short8_any (l : List Step8) (v : Value) (w : World) (hv : SlS8 w v l) (hl : l.length ≤ 9223372036854775807) :
    Calls Try.prog 8 #[v] w fun e w' => (∃ v', e = .returned v' ∧ ∀ wx, SlS8 wx v l → SlS8 wx v' (l.take 200)) ∧ w = w' := by
  obtain ⟨a, cap, rfl, hcap, _⟩ := hv
  obtain ⟨m, hm⟩ : ∃ m, m = min l.length 200 := ⟨_, rfl⟩
  have hmin : min (l.length : Int) 200 = (m : Int) := by omega
  have htk : ∀ wx, SlS8 wx (.slice a l.length cap) l → SlS8 wx (.slice a m cap) (l.take 200) := fun wx h0 => by
    have h := h0.take m (by omega)
    rw [show l.take m = l.take 200 by rw [hm]; simp [List.take_eq_take_iff]; omega] at h
    exact h
  have hsl := fun wx => slice_to2 23 31 Try.underlying23 infoStep8 a l.length cap m (by omega) hcap wx
  have TK := Lib.hid htk
  clear htk hm
  go_enter Try.func8, Try.ntmps8
  go_wp2
  go_ret
  exact ⟨⟨_, rfl, TK.out⟩, rfl⟩
end Sha
end Go.Proofs.Ytmpibofkihfiiaa
