/- The document's cache in memory: an account; Find. -/
import Derived.Test.YteiffdccfmfdbaaLruMath
import Derived.Test.YteiffdccfmfdbaaSlB
import Derived.Test.YteiffdccfmfdbaaApp
import Derived.Test.YteiffdccfmfdbaaPlan3
import Derived.Test.YteiffdccfmfdbaaPlan4
namespace Go.Proofs.Yteiffdccfmfdbaa
namespace Sha
open Go.RowKit Mem Lru
abbrev rq (g : Nat) : Value := .pointer (some ⟨g, 0, none⟩)
/-- A page that is held, with its bytes' slice. -/
abbrev Hv := Hd × Value
def hvC (p : Hv) : List Value := [.int .i64 p.1.item, p.2, .bool p.1.pin]
def zC (z : List Hv) : List Value := z.flatMap hvC
theorem zC_cons (p : Hv) (z : List Hv) : zC (p :: z) = hvC p ++ zC z := rfl
theorem zC_append (z y : List Hv) : zC (z ++ y) = zC z ++ zC y := by simp [zC]
theorem zC_length : ∀ z : List Hv, (zC z).length = z.length * 3
  | [] => rfl
  | p :: z => by rw [zC_cons, List.length_append, zC_length z, List.length_cons]; simp [hvC]; omega
theorem zC_get : ∀ (z : List Hv) (i j : Nat) (p : Hv), z[i]? = some p → j < 3 → (zC z)[3 * i + j]? = (hvC p)[j]?
  | [], i, j, p, h, _ => by simp at h
  | q :: z, 0, j, p, h, hj => by
    have : q = p := by simpa using h
    subst this
    rw [zC_cons, Nat.mul_zero, Nat.zero_add, List.getElem?_append_left (by simp [hvC]; exact hj)]
  | q :: z, i + 1, j, p, h, hj => by
    have h' : z[i]? = some p := by simpa using h
    rw [zC_cons, List.getElem?_append_right (by simp [hvC]; omega), show 3 * (i + 1) + j - (hvC q).length = 3 * i + j by simp [hvC]; omega]
    exact zC_get z i j p h' hj
theorem zC_take (z : List Hv) (i : Nat) : zC (z.take i) = (zC z).take (3 * i) := by
  induction z generalizing i with
  | nil => simp [zC]
  | cons p z ih =>
    cases i with
    | zero => simp [zC]
    | succ i => rw [List.take_succ_cons, zC_cons, zC_cons, ih, show 3 * (i + 1) = (hvC p).length + 3 * i by simp [hvC]; omega, List.take_append, Nat.add_sub_cancel_left, List.take_of_length_le (Nat.le_add_right _ _)]
theorem zC_drop (z : List Hv) (i : Nat) : zC (z.drop i) = (zC z).drop (3 * i) := by
  induction z generalizing i with
  | nil => simp [zC]
  | cons p z ih =>
    cases i with
    | zero => simp
    | succ i => rw [List.drop_succ_cons, zC_cons, ih, show 3 * (i + 1) = (hvC p).length + 3 * i by simp [hvC]; omega, List.drop_append]; simp [hvC]
def rcC (room : Nat) (v : Value) : Array Value := #[.int .i64 (room : Int), v]
/-- The cache lies at block b, all its memory in blocks of F; v: the slice of what is held. -/
structure RCv (F : Foot) (b : Nat) (w : World) (room : Nat) (v : Value) (z : List Hv) : Prop where
  row : At w b (rcC room v) 30
  sl : SlR (fun k => F k ∧ k ≠ b) w 3 v z.length (zC z)
  pages : ∀ p ∈ z, SlB (fun k => F k ∧ k ≠ b) w p.2 p.1.page
  bF : F b
  lt : ∀ k, F k → k < w.heap.size
theorem RCv.keep {F : Foot} {b : Nat} {w w' : World} {room : Nat} {v : Value} {z : List Hv} (h : RCv F b w room v z) (hs : w.heap.size ≤ w'.heap.size) (hk : ∀ k, F k → k < w.heap.size → w'.heap[k]? = w.heap[k]?) : RCv F b w' room v z where
  row := by
    have := h.row
    unfold At at *
    rw [hk b h.bF (h.lt b h.bF)]; exact this
  sl := h.sl.keep hs fun k hF hlt => hk k hF.1 hlt
  pages p hp := (h.pages p hp).keep hs fun k hF hlt => hk k hF.1 hlt
  bF := h.bF
  lt k hF := Nat.lt_of_lt_of_le (h.lt k hF) hs
theorem RCv.below {F : Foot} {b : Nat} {w w' : World} {room : Nat} {v : Value} {z : List Hv} (h : RCv F b w room v z) (hb : Below w.heap.size w w') : RCv F b w' room v z := h.keep hb.size fun k _ hlt => hb.block k hlt
/-- The box was written over. -/
theorem rcv_turn {F : Foot} {b : Nat} {w w' : World} {room : Nat} {v v' : Value} {z z' : List Hv} (h : RCv F b w room v z) (_hc : Chg (fun _k => _k = b) w w') (row : At w' b (rcC room v') 30)
    (sl : SlR (fun _k => (F _k ∨ w.heap.size ≤ _k) ∧ _k ≠ b) w' 3 v' z'.length (zC z')) (pages : ∀ p ∈ z', SlB (fun _k => (F _k ∨ w.heap.size ≤ _k) ∧ _k ≠ b) w' p.2 p.1.page) : RCv (grow F w w') b w' room v' z' where
  row := row
  sl := sl.mono fun _k hk hlt => ⟨⟨hk.1, hlt⟩, hk.2⟩
  pages p hp := (pages p hp).mono fun _k hk hlt => ⟨⟨hk.1, hlt⟩, hk.2⟩
  bF := ⟨.inl h.bF, row.lt⟩
  lt := grow_lt
/-- How a call that may write over the box ends. -/
def ZEnd (F : Foot) (b : Nat) (w : World) (room : Nat) (z : List Hv) (w' : World) : Prop := (∃ F' v, RCv F' b w' room v z ∧ ∀ k, F' k → F k ∨ w.heap.size ≤ k) ∧ Chg (fun k => k = b) w w'
theorem ZEnd.trans {F F1 : Foot} {b : Nat} {w w1 w2 : World} {room : Nat} {z : List Hv} (hF : ∀ k, F1 k → F k ∨ w.heap.size ≤ k) (hc : Chg (fun k => k = b) w w1) (h : ZEnd F1 b w1 room z w2) : ZEnd F b w room z w2 := by
  obtain ⟨⟨F', v, h1, h2⟩, h3⟩ := h
  exact ⟨⟨F', v, h1, fun k hk => (h2 k hk).elim (hF k) fun h => .inr (Nat.le_trans hc.size h)⟩, hc.trans h3 fun k hk => .inl hk⟩
theorem zend_same {F : Foot} {b : Nat} {w w' : World} {room : Nat} {v : Value} {z : List Hv} (h : RCv F b w room v z) (hb : Below w.heap.size w w') : ZEnd F b w room z w' :=
  ⟨⟨F, v, h.below hb, fun _ hk => .inl hk⟩, Chg.of_below hb⟩
theorem undrew15 {w w' : World} {B : Nat} (h : Below B w.drew w') : Below B w w' := ⟨h.os, h.tape, h.output, h.size, h.block⟩
theorem rows3_at {F : Foot} {w : World} {n c : Nat} {a : Option Addr} {z : List Hv} (h : SlR F w 3 (.slice a n c) z.length (zC z)) {i : Nat} (hi : i < z.length) :
    ∃ bb oo, a = some ⟨bb, oo, none⟩ ∧ F bb ∧ bb < w.heap.size ∧ n = z.length ∧ w.cell? ⟨bb, oo + i * 3, none⟩ = some (.int .i64 (z[i]'hi).1.item) ∧ w.cell? ⟨bb, oo + i * 3 + 1, none⟩ = some (z[i]'hi).2 ∧ w.cell? ⟨bb, oo + i * 3 + 2, none⟩ = some (.bool (z[i]'hi).1.pin) := by
  obtain ⟨hl, a', c', e, _, hr⟩ := h
  injection e with e1 e2 _
  obtain ⟨bb, oo, ea, hF, hlt, hcell⟩ := hr (by omega)
  have hz : z[i]? = some (z[i]'hi) := List.getElem?_eq_getElem hi
  have hg := fun j hj => zC_get z i j _ hz hj
  refine ⟨bb, oo, by rw [e1]; exact ea, hF, hlt, e2, ?_, ?_, ?_⟩
  · have := hcell (3 * i + 0) _ (hg 0 (by decide))
    rw [← this]; congr 2; omega
  · have := hcell (3 * i + 1) _ (hg 1 (by decide))
    rw [← this]; congr 2; omega
  · have := hcell (3 * i + 2) _ (hg 2 (by decide))
    rw [← this]; congr 2; omega
set_option maxRecDepth 100000 in
set_option maxHeartbeats 2000000 in
theorem rfind_any {F : Foot} {b room : Nat} {v : Value} {z : List Hv} (x : Int) (w : World) (h : RCv F b w room v z) (hz : z.length ≤ 1000000) : Calls Try.prog 25 #[rq b, .int .i64 x] w fun e w' => e = .returned (.int .i64 (idx x (z.map Prod.fst) 0)) ∧ w' = w := by
  have c1 : w.cell? ⟨b, 1, none⟩ = some v := by rw [h.row.cell]; rfl
  obtain ⟨_, a, cap, rfl, _, _⟩ := id h.sl
  obtain ⟨n, hn⟩ : ∃ n, n = z.length := ⟨_, rfl⟩
  rw [← hn] at c1 hz
  have H := Lib.hid h; have HN := Lib.hid hn
  clear h hn
  go_enter Try.func25, Try.ntmps25
  go_wp2_with fail
  go_loopw [5] (fun a5 wr => ∃ k : Nat, k ≤ n ∧ a5 = .int .i64 (k : Int) ∧ wr = w ∧ ∀ j, j < k → ((z.map Prod.fst).getD j default).item ≠ x) (fun i _ => n - (intOf i).toNat)
  case atStart => exact ⟨0, Nat.zero_le _, rfl, rfl, fun j hj => absurd hj (Nat.not_lt_zero _)⟩
  case round =>
    obtain ⟨k, hk, rfl, rfl, hall⟩ := hrel
    have HA := Lib.hid hall
    clear hall
    by_cases hlt : k < n
    · have hat := rows3_at H.out.sl (i := k) (by rw [← HN.out]; exact hlt)
      obtain ⟨bb, oo, rfl, _, _, _, e1, _, _⟩ := hat
      obtain ⟨y, hy⟩ : ∃ y, y = (z[k]'(by rw [← HN.out]; exact hlt)).1.item := ⟨_, rfl⟩
      rw [← hy] at e1
      have hy2 : ((z.map Prod.fst).getD k default).item = y := by rw [hy]; simp [List.getD_eq_getElem?_getD, show k < z.length by rw [← HN.out]; exact hlt]
      have HY := Lib.hid hy2
      have hlt' : (k : Int) < (n : Int) := by omega
      clear hy hy2
      by_cases he : y = x
      · subst he
        go_wp2_with fail
        go_ret
        refine ⟨?_, rfl⟩
        rw [idx_hit (z.map Prod.fst) k 0 (by simp; rw [← HN.out]; exact hlt) HY.out HA.out, Nat.zero_add]; rfl
      · go_wp2_with fail
        go_roundw
        case rel =>
          refine ⟨k + 1, by omega, by go_num, (by first | trivial | rfl), fun j hj => ?_⟩
          by_cases e : j = k
          · subst e; rw [HY.out]; exact he
          · exact HA.out j (by omega)
        case measure => simp [intOf]; omega
    · have hkm : k = n := by omega
      subst hkm
      go_wp2_with fail
      go_ret
      refine ⟨?_, rfl⟩
      rw [idx_miss (fun j hj => HA.out j (by rw [HN.out]; simpa using hj)) 0]; rfl
end Sha
end Go.Proofs.Yteiffdccfmfdbaa
