/- My own texts, merged. -/
import Derived.Test.YtahcjnganedbiaaGreatDoorBN14
import Derived.Test.YtahcjnganedbiaaGreatDoorBN09
import Derived.Test.YtahcjnganedbiaaGreatDoorBN15
import Derived.Lib.SliceRun
namespace Go.Proofs.YtahcjnganedbiaaGreatDoor
namespace Sha
open Go.RowKit Mem
def plOk (r : RefV) : Bool := decide (0 ≤ r.pl ∧ r.pl ≤ 1)
def bodyN (L : List RefV) (n : Nat) : List (BitVec 8) := BitVec.ofNat 8 L.length :: (L.take n).flatMap layRf
theorem bodyN_succ (L : List RefV) (n : Nat) (h : n < L.length) : bodyN L (n + 1) = bodyN L n ++ layRf (L.getD n zref) := by
 unfold bodyN
 rw [List.take_add_one, List.getElem?_eq_getElem h, List.flatMap_append]
 simp [List.getD_eq_getElem?_getD, List.getElem?_eq_getElem h]
theorem flat_length (L : List RefV) (h : ∀ r ∈ L, r.Wf) : (L.flatMap layRf).length = 37 * L.length := by
 induction L with
 | nil => rfl
 | cons r L ih =>
  rw [List.flatMap_cons, List.length_append, layRf_length (h r (List.mem_cons_self ..)), ih (fun x hx => h x (List.mem_cons_of_mem _ hx)), List.length_cons]
  omega
theorem bodyN_length (L : List RefV) (n : Nat) (h : ∀ r ∈ L, r.Wf) (hn : n ≤ L.length) : (bodyN L n).length = 1 + 37 * n := by
 unfold bodyN
 rw [List.length_cons, flat_length _ (fun r hr => h r (List.mem_of_mem_take hr)), List.length_take]
 omega
def layN (L : List RefV) : List (BitVec 8) × Int :=
 if L.length < 1 ∨ 6 < L.length ∨ L.all plOk = false then ([], 1) else (bodyN L L.length ++ List.replicate (256 - (1 + 37 * L.length)) 0, 0)
theorem layN_ok {L : List RefV} {p : List (BitVec 8)} (h : layN L = (p, 0)) : (1 ≤ L.length ∧ L.length ≤ 6) ∧ L.all plOk = true ∧ p = bodyN L L.length ++ List.replicate (256 - (1 + 37 * L.length)) 0 := by
 unfold layN at h
 split at h
 ·injection h with _ h; cases h
 ·rename_i hc
  injection h with h _
  refine ⟨by omega, ?_, h.symm⟩
  cases e : L.all plOk
  ·exact absurd (Or.inr (Or.inr e)) hc
  ·rfl
theorem layN_length {L : List RefV} {p : List (BitVec 8)} (hw : ∀ r ∈ L, r.Wf) (h : layN L = (p, 0)) : p.length = 256 := by
 obtain ⟨h1, _, rfl⟩ := layN_ok h
 rw [List.length_append, bodyN_length L _ hw (Nat.le_refl _), List.length_replicate]
 omega
def SlB (F : Foot) (w : World) (v : Value) (l : List (BitVec 8)) : Prop := SlR F w 1 v l.length (u8s l)
theorem SlB.sl {F : Foot} {w : World} {v : Value} {l : List (BitVec 8)} (h : SlB F w v l) : Sl w v l := by
 obtain ⟨_, a, cap, rfl, hc, hr⟩ := h
 refine ⟨a, cap, rfl, hc, fun hne => ?_⟩
 obtain ⟨bb, oo, ea, _, hlt, hcell⟩ := hr (fun h0 => hne (List.eq_nil_of_length_eq_zero h0))
 exact ⟨bb, oo, ea, hlt, fun i hi => hcell i _ (u8s_get l i hi)⟩
theorem SlB.keep {F : Foot} {w w' : World} {v : Value} {l : List (BitVec 8)} (h : SlB F w v l) (hs : w.heap.size ≤ w'.heap.size) (hk : ∀ k, F k → k < w.heap.size → w'.heap[k]? = w.heap[k]?) : SlB F w' v l := SlR.keep h hs hk
theorem SlB.mono {F G : Foot} {w : World} {v : Value} {l : List (BitVec 8)} (h : SlB F w v l) (hs : ∀ k, F k → k < w.heap.size → G k) : SlB G w v l := SlR.mono h hs
theorem OwnB.slB {w : World} {B : Nat} {v : Value} {l : List (BitVec 8)} (h : OwnB w B v l) : SlB (fun k => B ≤ k) w v l := ownsRow_slR h
theorem slB_nil (F : Foot) (w : World) : SlB F w (.slice none 0 0) [] := SlR.nil F w 1
structure St6 where
 n : Nat
 b : List (BitVec 8)
 w : List (Nat × List (BitVec 8))
 sh : List (List (BitVec 8))
 t : List Int
def putC : List (Nat × Value) → List Value
 | [] => []
 | p :: l => .int .i64 (p.1 : Int) :: p.2 :: putC l
theorem putC_snoc (p : Nat × Value) : ∀ l, putC (l ++ [p]) = putC l ++ [.int .i64 (p.1 : Int), p.2]
 | [] => rfl
 | _ :: l => by simp [putC, putC_snoc p l]
theorem putC_at : ∀ (l : List (Nat × Value)) (i : Nat) (p : Nat × Value), l[i]? = some p → (putC l)[2 * i]? = some (.int .i64 (p.1 : Int)) ∧ (putC l)[2 * i + 1]? = some p.2
 | q :: l, 0, p, h => by
  have hq : q = p := by simpa using h
  subst hq
  exact ⟨rfl, rfl⟩
 | q :: l, i + 1, p, h => by
  have h' : l[i]? = some p := by simpa using h
  have := putC_at l i p h'
  simpa [putC, Nat.mul_add] using this
def WPut (G : Foot) (w : World) (v : Value) (l : List (Nat × List (BitVec 8))) : Prop := ∃ ws : List (Nat × Value), Each2 (fun p q => p.1 = q.1 ∧ SlB G w p.2 q.2) ws l ∧ SlR G w 2 v l.length (putC ws)
def WSh (G : Foot) (w : World) (v : Value) (l : List (List (BitVec 8))) : Prop := ∃ hs : List Value, Each2 (fun p q => SlB G w p q) hs l ∧ SlR G w 1 v l.length hs
def i64s (l : List Int) : List Value := l.map fun k => .int .i64 k
def WTr (G : Foot) (w : World) (v : Value) (l : List Int) : Prop := SlR G w 1 v l.length (i64s l)
theorem WPut.keep {G : Foot} {w w' : World} {v : Value} {l : List (Nat × List (BitVec 8))} (h : WPut G w v l) (hs : w.heap.size ≤ w'.heap.size) (hk : ∀ k, G k → k < w.heap.size → w'.heap[k]? = w.heap[k]?) : WPut G w' v l := by
 obtain ⟨ws, h1, h2⟩ := h
 exact ⟨ws, h1.mono fun _ _ h => ⟨h.1, h.2.keep hs hk⟩, h2.keep hs hk⟩
theorem WPut.mono {G H : Foot} {w : World} {v : Value} {l : List (Nat × List (BitVec 8))} (h : WPut G w v l) (hs : ∀ k, G k → k < w.heap.size → H k) : WPut H w v l := by
 obtain ⟨ws, h1, h2⟩ := h
 exact ⟨ws, h1.mono fun _ _ h => ⟨h.1, h.2.mono hs⟩, h2.mono hs⟩
theorem WSh.keep {G : Foot} {w w' : World} {v : Value} {l : List (List (BitVec 8))} (h : WSh G w v l) (hs : w.heap.size ≤ w'.heap.size) (hk : ∀ k, G k → k < w.heap.size → w'.heap[k]? = w.heap[k]?) : WSh G w' v l := by
 obtain ⟨ws, h1, h2⟩ := h
 exact ⟨ws, h1.mono fun _ _ h => h.keep hs hk, h2.keep hs hk⟩
theorem WSh.mono {G H : Foot} {w : World} {v : Value} {l : List (List (BitVec 8))} (h : WSh G w v l) (hs : ∀ k, G k → k < w.heap.size → H k) : WSh H w v l := by
 obtain ⟨ws, h1, h2⟩ := h
 exact ⟨ws, h1.mono fun _ _ h => h.mono hs, h2.mono hs⟩
theorem WPut.hd {G : Foot} {w : World} {v : Value} {l : List (Nat × List (BitVec 8))} (h : WPut G w v l) : ∃ a cap, v = .slice a l.length cap := by
 obtain ⟨_, _, _, a, cap, e, _⟩ := h; exact ⟨a, cap, e⟩
theorem WSh.hd {G : Foot} {w : World} {v : Value} {l : List (List (BitVec 8))} (h : WSh G w v l) : ∃ a cap, v = .slice a l.length cap := by
 obtain ⟨_, _, _, a, cap, e, _⟩ := h; exact ⟨a, cap, e⟩
theorem WTr.hd {G : Foot} {w : World} {v : Value} {l : List Int} (h : WTr G w v l) : ∃ a cap, v = .slice a l.length cap := by
 obtain ⟨_, a, cap, e, _⟩ := h; exact ⟨a, cap, e⟩
theorem SlB.hd {G : Foot} {w : World} {v : Value} {l : List (BitVec 8)} (h : SlB G w v l) : ∃ a cap, v = .slice a l.length cap := by
 obtain ⟨_, a, cap, e, _⟩ := h; exact ⟨a, cap, e⟩
structure Four (G : Foot) (w : World) (vb vw vs vt : Value) (s : St6) : Prop where
 fb : SlB G w vb s.b
 fw : WPut G w vw s.w
 fs : WSh G w vs s.sh
 ft : WTr G w vt s.t
theorem Four.keep {G : Foot} {w w' : World} {vb vw vs vt : Value} {s : St6} (h : Four G w vb vw vs vt s) (hs : w.heap.size ≤ w'.heap.size) (hk : ∀ k, G k → k < w.heap.size → w'.heap[k]? = w.heap[k]?) : Four G w' vb vw vs vt s :=
 ⟨h.fb.keep hs hk, h.fw.keep hs hk, h.fs.keep hs hk, SlR.keep h.ft hs hk⟩
theorem Four.mono {G H : Foot} {w : World} {vb vw vs vt : Value} {s : St6} (h : Four G w vb vw vs vt s) (hs : ∀ k, G k → k < w.heap.size → H k) : Four H w vb vw vs vt s :=
 ⟨h.fb.mono hs, h.fw.mono hs, h.fs.mono hs, SlR.mono h.ft hs⟩
structure StEnd (R : Foot → Nat → World → St6 → Prop) (F : Foot) (br : Nat) (w : World) (s : St6) (w' : World) : Prop where
 h : ∃ F', R F' br w' s ∧ ∀ k, F' k → F k ∨ w.heap.size ≤ k
 c : Chg F w w'
theorem StEnd.trans {R : Foot → Nat → World → St6 → Prop} {F F1 : Foot} {br : Nat} {w w1 w2 : World} {s2 : St6} (hc : Chg F w w1) (hx : ∀ k, F1 k → F k ∨ w.heap.size ≤ k) (k : StEnd R F1 br w1 s2 w2) : StEnd R F br w s2 w2 := by
 obtain ⟨F', h1, h2⟩ := k.h
 exact ⟨⟨F', h1, fun k hk => (h2 k hk).elim (hx k) (fun h => .inr (Nat.le_trans hc.size h))⟩, hc.trans k.c hx⟩
set_option maxRecDepth 100000 in
set_option maxHeartbeats 1000000 in
theorem pclone_any (l : List (BitVec 8)) (v : Value) (w : World) (bl : l.length ≤ 1000000) (hv : Sl w v l) : Calls Tryz.prog 85 #[v] w (PadEnd w l) := by
 have q22 : ∀ (w : World) (a : Option Addr) (n c n' c' : Nat), (binOp .eql 36 (.slice a n c) (.slice none n' c')).run Tryz.prog w = .ok (.bool a.isNone) w := fun w a n c n' c' => Lib.run_eql_slice_nil w _ _ a n c n' c' Tryz.underlying36
 have hv0 := hv
 obtain ⟨a0, cap, rfl, _, hr⟩ := hv
 obtain ⟨m, hm⟩ : ∃ m, m = l.length := ⟨_, rfl⟩
 cases a0 with
 | none =>
  have hl : l = [] := by
   rcases l with _ | ⟨x, l⟩
   ·rfl
   ·obtain ⟨_, _, h, _⟩ := hr (by simp)
    cases h
  subst hl
  clear hr hv0 hm
  go_enter Tryz.func85, Tryz.ntmps85
  go_wp2
  go_ret
  exact ⟨_, rfl, OwnB.nil _ _, Below.refl _ _⟩
 | some ad =>
  have hsl : Sl (w.alloc (.cells #[] 5)) (.slice (some ad) l.length cap) l := hv0.below ((Below.refl _ _).alloc (Nat.le_refl _) _)
  have hb0 : Below w.heap.size w (w.alloc (.cells #[] 5)) := (Below.refl _ _).alloc (Nat.le_refl _) _
  have how : OwnB (w.alloc (.cells #[] 5)) w.heap.size (.slice (some ⟨w.heap.size, 0, none⟩) 0 0) [] := own_none w w.heap.size (Nat.le_refl _)
  rw [← hm] at bl hsl ⊢
  have HV := zh hsl; have HM := zh hm; have HB := zh hb0; have HO := zh how
  clear hv0 hm hr hsl hb0 how
  go_enter Tryz.func85, Tryz.ntmps85
  go_wp2_with (at_builtin; refine wpList_append_bytes zr _ _ zr w.heap.size (.slice (some ⟨w.heap.size, 0, none⟩) 0 0) (.slice (some ad) m cap) [] l zr HO.out zr HV.out (by rw [List.length_nil, ← HM.out]; omega) (by simp) ?_; intro v5 w5 ho5 _ hb5; have O5 := zh ho5; have B5 := zh (HB.out.trans hb5); clear ho5 hb5)
  go_ret
  exact ⟨_, rfl, by simpa using O5.out, B5.out⟩
end Sha
end Go.Proofs.YtahcjnganedbiaaGreatDoor
