/- Anchors that came in, opened: one by value, a slice of them. -/
import Derived.Test.YtknaimpnkflfnaaAncMath
import Derived.Test.YtknaimpnkflfnaaAncParM
import Derived.Test.YtknaimpnkflfnaaLift0
namespace Go.Proofs.Ytknaimpnkflfnaa
namespace Sha
open Go.ChangeShapes Go.WideShapes Go.ChangeAt Go.WideMaps Go.WideElems Go.RowKit Mem
theorem cAI : Try.prog.cellsOf 3 = 1 := by kernel_rfl
theorem cAU : Try.prog.cellsOf 22 = 1 := by kernel_rfl
theorem cAW : Try.prog.cellsOf 24 = 1 := by kernel_rfl
theorem cA32 : Try.prog.cellsOf 23 = 32 := by kernel_rfl
theorem cAnc : Try.prog.cellsOf 26 = 71 := by kernel_rfl
theorem join_piece {α : Type} (cs : List α) (i k m : Nat) (p : List α) (h : (cs.drop i).take k = p) (hm : m = i + k) : cs.take m = cs.take i ++ p := by
  subst hm; rw [← h]; exact List.take_add
theorem anc_of {H : Type} {enc : TypeId × Value → H} {w : World} {n : Nat} {cs : List Value} {y : DataW H × List MemPlace} (h : DataW.trod enc Try.prog w 0 (fun _ => true) true n 26 cs = some y) : ∃ a : Anc, a.Wf ∧ cs = ancL a := by
  obtain ⟨xs, m, _, _, hl, hlen, hf⟩ := DataW.trod_struct Try.underlying26 h
  rw [cAnc] at hl
  match xs, hlen with
  | [y0, y1, y2, y3, y4, y5, y6, y7, y8], _ =>
    have h0 := hf 0 _ rfl
    have h1 := hf 1 _ rfl
    have h2 := hf 2 _ rfl
    have h3 := hf 3 _ rfl
    have h4 := hf 4 _ rfl
    have h5 := hf 5 _ rfl
    have h6 := hf 6 _ rfl
    have h7 := hf 7 _ rfl
    have h8 := hf 8 _ rfl
    clear hf
    obtain ⟨n0, e0, _, w0⟩ := DataW.trod_int (t := 3) Try.underlying3 h0
    obtain ⟨n1, e1, _, w1⟩ := DataW.trod_int (t := 3) Try.underlying3 h1
    obtain ⟨n2, e2, _, w2⟩ := DataW.trod_int (t := 22) Try.underlying22 h2
    obtain ⟨n3, e3, _, w3⟩ := DataW.trod_int (t := 3) Try.underlying3 h3
    obtain ⟨l4, e4, k4⟩ := open_bytes_in (t := 23) Try.underlying23 cA32 h4
    obtain ⟨n5, e5, _, w5⟩ := DataW.trod_int (t := 3) Try.underlying3 h5
    obtain ⟨n6, e6, _, w6⟩ := DataW.trod_int (t := 22) Try.underlying22 h6
    obtain ⟨l7, e7, k7⟩ := open_bytes_in (t := 23) Try.underlying23 cA32 h7
    obtain ⟨n8, e8, _, w8⟩ := DataW.trod_int (t := 24) Try.underlying24 h8
    clear h0 h1 h2 h3 h4 h5 h6 h7 h8
    have e0 : (cs.drop 0).take (Try.prog.cellsOf 3) = [.int .i64 n0] := e0
    have e1 : (cs.drop 1).take (Try.prog.cellsOf 3) = [.int .i64 n1] := e1
    have e2 : (cs.drop 2).take (Try.prog.cellsOf 22) = [.int .u32 n2] := e2
    have e3 : (cs.drop 3).take (Try.prog.cellsOf 3) = [.int .i64 n3] := e3
    have e4 : (cs.drop 4).take (Try.prog.cellsOf 23) = u8s l4 := e4
    have e5 : (cs.drop 36).take (Try.prog.cellsOf 3) = [.int .i64 n5] := e5
    have e6 : (cs.drop 37).take (Try.prog.cellsOf 22) = [.int .u32 n6] := e6
    have e7 : (cs.drop 38).take (Try.prog.cellsOf 23) = u8s l7 := e7
    have e8 : (cs.drop 70).take (Try.prog.cellsOf 24) = [.int .u64 n8] := e8
    rw [cAI] at e0 e1 e3 e5
    rw [cAU] at e2 e6
    rw [cAW] at e8
    rw [cA32] at e4 e7
    simp [Lit.wf, IntKind.min, IntKind.max, IntKind.signed, IntKind.bits] at w0 w1 w2 w3 w5 w6 w8
    refine ⟨⟨n0, n1, n2.toNat, n3, l4, n5, n6.toNat, l7, n8.toNat⟩, ⟨by simp only; omega, by simp only; omega, by simp only; omega, by simp only; omega, by simp only; omega, by simp only; omega, by simp only; omega, k4, by simp only; omega, by simp only; omega, by simp only; omega, k7, by simp only; omega⟩, ?_⟩
    have g2 : ((n2.toNat : Nat) : Int) = n2 := by omega
    have g6 : ((n6.toNat : Nat) : Int) = n6 := by omega
    have g8 : ((n8.toNat : Nat) : Int) = n8 := by omega
    have t1 := join_piece cs 0 1 1 _ e0 rfl
    have t2 := join_piece cs 1 1 2 _ e1 rfl
    have t3 := join_piece cs 2 1 3 _ e2 rfl
    have t4 := join_piece cs 3 1 4 _ e3 rfl
    have t5 := join_piece cs 4 32 36 _ e4 rfl
    have t6 := join_piece cs 36 1 37 _ e5 rfl
    have t7 := join_piece cs 37 1 38 _ e6 rfl
    have t8 := join_piece cs 38 32 70 _ e7 rfl
    have t9 := join_piece cs 70 1 71 _ e8 rfl
    rw [t8, t7, t6, t5, t4, t3, t2, t1, List.take_zero, List.take_of_length_le (by omega)] at t9
    rw [t9]
    simp only [ancL, g2, g6, g8]
    simp
theorem open_anc {H : Type} {enc : TypeId × Value → H} {W : World} {base : Nat} {v : Value} {d : DataW H} {p : List MemPlace} (hval : Value.okWide Try.prog W .any base 26 v) (h : DataW.Trod enc Try.prog W 0 (fun _ => true) true 26 v d p) :
    ∃ a : Anc, v = .agg (ancC a) ∧ a.Wf := by
  obtain ⟨cs, rfl, _⟩ := okWide_struct Try.underlying26 hval
  obtain ⟨fuel, hf⟩ := h
  obtain ⟨a, ha, e⟩ := anc_of hf
  refine ⟨a, ?_, ha⟩
  have e2 : cs.toList = ancL a := by simpa [Value.cells] using e
  unfold ancC
  rw [← e2]
/-- A slice of anchors. -/
def SlA (w : World) (v : Value) (l : List Anc) : Prop :=
  ∃ a cap, v = .slice a l.length cap ∧ l.length ≤ cap ∧ (l ≠ [] → ∃ bb oo, a = some ⟨bb, oo, none⟩ ∧ bb < w.heap.size ∧ ∀ i, i < l.length → ∀ j, j < 71 → w.cell? ⟨bb, oo + (71 * i + j), none⟩ = (ancC (l.getD i zanc))[j]?)
theorem SlA.below {w wr : World} {v : Value} {l : List Anc} (h : SlA w v l) (hb : Below w.heap.size w wr) : SlA wr v l := by
  obtain ⟨a, cap, e, hc, hr⟩ := h
  refine ⟨a, cap, e, hc, fun hne => ?_⟩
  obtain ⟨bb, oo, ea, hlt, hcell⟩ := hr hne
  exact ⟨bb, oo, ea, Nat.lt_of_lt_of_le hlt hb.size, fun i hi j hj => by rw [hb.cell (p := ⟨bb, oo + (71 * i + j), none⟩) hlt]; exact hcell i hi j hj⟩
instance : Inhabited Anc := ⟨zanc⟩
theorem list_ofA {P : Nat → Anc → Prop} : ∀ n : Nat, (∀ i, i < n → ∃ x, P i x) → ∃ l : List Anc, l.length = n ∧ ∀ i, i < n → P i (l.getD i zanc)
  | 0, _ => ⟨[], rfl, fun i hi => absurd hi (by omega)⟩
  | n + 1, h => by
    obtain ⟨l, hl, hp⟩ := list_ofA n (fun i hi => h i (by omega))
    obtain ⟨x, hx⟩ := h n (by omega)
    refine ⟨l ++ [x], by simp [hl], fun i hi => ?_⟩
    by_cases hin : i < n
    · have : (l ++ [x]).getD i zanc = l.getD i zanc := by
        rw [List.getD_eq_getElem?_getD, List.getD_eq_getElem?_getD, List.getElem?_append_left (by omega)]
      rw [this]; exact hp i hin
    · have hi2 : i = n := by omega
      subst hi2
      have : (l ++ [x]).getD i zanc = x := by
        rw [List.getD_eq_getElem?_getD, List.getElem?_append_right (by omega), hl]; simp
      rw [this]; exact hx
theorem open_slA {H : Type} {enc : TypeId × Value → H} {W : World} {base : Nat} {v : Value} {d : DataW H} {p : List MemPlace} (hval : Value.okWide Try.prog W .any base 46 v) (h : DataW.Trod enc Try.prog W 0 (fun _ => true) true 46 v d p) :
    ∃ l : List Anc, SlA W v l ∧ l.length ≤ 9223372036854775807 ∧ ∀ x ∈ l, x.Wf := by
  obtain ⟨a0, len0, cap0, rfl⟩ := okWide_slice Try.underlying46 hval
  obtain ⟨fuel, hf⟩ := h
  rcases DataW.trod_slice Try.underlying46 hf with ⟨hcs, _⟩ | ⟨a, len, cap, elems, rest, n, _, hcs, _, hb, hl, hm, hlen, hel, _, _⟩
  · simp [Value.cells] at hcs
    obtain ⟨rfl, rfl, rfl⟩ := hcs
    exact ⟨[], ⟨none, 0, rfl, by simp, fun h => absurd rfl h⟩, by simp, by simp⟩
  · simp [Value.cells] at hcs
    obtain ⟨rfl, rfl, rfl⟩ := hcs
    rw [cAnc] at hel
    have each : ∀ i, i < len0 → ∃ x : Anc, x.Wf ∧ ∀ j, j < 71 → W.cell? ((a.add (i * 71)).add j) = (ancC x)[j]? := fun i hi => by
      have h1 := hel i hi
      rw [List.getElem?_eq_getElem (by omega), Option.bind_eq_some_iff] at h1
      obtain ⟨cs', hc, hy⟩ := h1
      obtain ⟨x, hx, rfl⟩ := anc_of hy
      refine ⟨x, hx, fun j hj => ?_⟩
      have h2 := (World.cells?_some hc).2.2 j hj
      rw [h2]
      unfold ancC
      rw [List.getElem?_toArray]
    obtain ⟨l, h1, h2⟩ := list_ofA len0 each
    refine ⟨l, ?_, by unfold maxLen at hm; omega, fun x hx => ?_⟩
    · refine ⟨some a, cap0, by rw [h1], by omega, fun hne => ?_⟩
      have h0 : 0 < len0 := by rw [← h1]; exact List.length_pos_iff.2 hne
      have hc := (h2 0 h0).2 0 (by decide)
      rw [anc0] at hc
      obtain ⟨bb, oo, q⟩ := a
      have hq : q = none := by
        have := World.cell?_spot hc
        simpa [Addr.add] using this
      subst hq
      refine ⟨bb, oo, rfl, ?_, fun i hi j hj => ?_⟩
      · rw [Addr.add_mid, Addr.add_mid] at hc
        exact block_lt_of_cell hc
      · have h3 := (h2 i (by omega)).2 j hj
        rw [Addr.add_mid, Addr.add_mid] at h3
        rw [← h3]
        congr 2
        omega
    · obtain ⟨i, hi, rfl⟩ := List.getElem_of_mem hx
      have := (h2 i (by omega)).1
      rw [List.getD_eq_getElem?_getD, List.getElem?_eq_getElem hi] at this
      exact this
end Sha
end Go.Proofs.Ytknaimpnkflfnaa
