/- A slice of steps that reads as a list; its first sixty. -/
import Derived.Test.YtkgpcgkikenljaaDevLow
import Derived.Test.YtkgpcgkikenljaaPlan2
namespace Go.Proofs.Ytkgpcgkikenljaa
namespace Sha
open Go.RowKit Mem
structure Step6 where
  k : BitVec 8
  n : Int
  a : Int
  x : BitVec 8
  q : Nat
deriving Inhabited
/-- A step's cells. -/
def stepC6 (s : Step6) : Array Value := #[.int .u8 (B8 s.k), .int .i64 s.n, .int .i64 s.a, .int .u8 (B8 s.x), .int .u64 (s.q : Int)]
def SlS6 (w : World) (v : Value) (l : List Step6) : Prop :=
  ∃ a cap, v = .slice a l.length cap ∧ l.length ≤ cap ∧ (l ≠ [] → ∃ bb oo, a = some ⟨bb, oo, none⟩ ∧ bb < w.heap.size ∧ ∀ i, i < l.length → ∀ j, j < 5 → w.cell? ⟨bb, oo + (5 * i + j), none⟩ = (stepC6 (l.getD i default))[j]?)
theorem SlS6.below {w wr : World} {v : Value} {l : List Step6} (h : SlS6 w v l) (hb : Below w.heap.size w wr) : SlS6 wr v l := by
  obtain ⟨a, cap, e, hc, hr⟩ := h
  refine ⟨a, cap, e, hc, fun hne => ?_⟩
  obtain ⟨bb, oo, ea, hlt, hcell⟩ := hr hne
  exact ⟨bb, oo, ea, Nat.lt_of_lt_of_le hlt hb.size, fun i hi j hj => by rw [hb.cell (p := ⟨bb, oo + (5 * i + j), none⟩) hlt]; exact hcell i hi j hj⟩
theorem SlS6.take {w : World} {a : Option Addr} {n cap : Nat} {l : List Step6} (h : SlS6 w (.slice a n cap) l) (m : Nat) (hm : m ≤ l.length) : SlS6 w (.slice a m cap) (l.take m) := by
  obtain ⟨a', cap', e, hc, hr⟩ := h
  injection e with e1 _ e3
  subst e1; subst e3
  have hl : (l.take m).length = m := by rw [List.length_take]; omega
  refine ⟨a, cap, by rw [hl], by rw [hl]; omega, fun hne => ?_⟩
  obtain ⟨bb, oo, ea, hlt, hcell⟩ := hr (fun h0 => hne (by rw [h0]; simp))
  refine ⟨bb, oo, ea, hlt, fun i hi j hj => ?_⟩
  rw [hl] at hi
  rw [hcell i (by omega) j hj]
  simp [List.getD_eq_getElem?_getD, hi]
theorem slS6_at {w : World} {a : Option Addr} {n cap : Nat} {l : List Step6} (h : SlS6 w (.slice a n cap) l) {i : Nat} (hi : i < l.length) :
    ∃ b o, a = some ⟨b, o, none⟩ ∧ ∀ j, j < 5 → w.cell? ⟨b, o + (5 * i + j), none⟩ = (stepC6 (l.getD i default))[j]? := by
  obtain ⟨a', cap', e, _, hr⟩ := h
  injection e with e1 _ _
  obtain ⟨b, o, ea, _, hc⟩ := hr (by intro e; rw [e] at hi; simp at hi)
  exact ⟨b, o, by rw [e1]; exact ea, hc i hi⟩
theorem infoStep6 : (Try.prog.info? 39).map (·.size) = some 5 := by kernel_rfl
theorem slice_to5 (ty e : TypeId) (hu : Try.prog.underlying ty = some (.slice e)) (hs : (Try.prog.info? e).map (·.size) = some 5) (a0 : Option Addr) (len cap j : Nat) (hj : j ≤ len) (hc : len ≤ cap) (w : World) :
    (Instr.sliceAt ty (.slice a0 len cap) none (some (.int .i64 (j : Int))) none).run Try.prog w = .ok (.slice a0 j cap) w := by
  cases hq : Try.prog.info? e with
  | none => simp [hq] at hs
  | some q =>
    have hs1 : q.size = 5 := by simpa [hq] using hs
    have hjc : j ≤ cap := by omega
    have ha : (a0.map fun x => x.add 0) = a0 := by cases a0 <;> simp [Addr.add]
    simp [Instr.sliceAt, Instr.slice, Instr.sliceBounds, Instr.sliceBound, asIntOf, Sem.run_bind, run_underlying hu, sizeOf, typeInfo, hq, hjc, ha]
set_option maxHeartbeats 1000000 in
theorem short6_any (l : List Step6) (v : Value) (w : World) (hv : SlS6 w v l) (hl : l.length ≤ 9223372036854775807) :
    Calls Try.prog 10 #[v] w fun e w' => (∃ v', e = .returned v' ∧ ∀ wx, SlS6 wx v l → SlS6 wx v' (l.take 60)) ∧ w = w' := by
  obtain ⟨a, cap, rfl, hcap, _⟩ := hv
  obtain ⟨m, hm⟩ : ∃ m, m = min l.length 60 := ⟨_, rfl⟩
  have hmin : min (l.length : Int) 60 = (m : Int) := by omega
  have htk : ∀ wx, SlS6 wx (.slice a l.length cap) l → SlS6 wx (.slice a m cap) (l.take 60) := fun wx h0 => by
    have h := h0.take m (by omega)
    rw [show l.take m = l.take 60 by rw [hm]; simp [List.take_eq_take_iff]; omega] at h
    exact h
  have hsl := fun wx => slice_to5 22 39 Try.underlying22 infoStep6 a l.length cap m (by omega) hcap wx
  have TK := Lib.hid htk
  clear htk hm
  go_enter Try.func10, Try.ntmps10
  go_wp2
  go_ret
  exact ⟨⟨_, rfl, TK.out⟩, rfl⟩
end Sha
end Go.Proofs.Ytkgpcgkikenljaa
