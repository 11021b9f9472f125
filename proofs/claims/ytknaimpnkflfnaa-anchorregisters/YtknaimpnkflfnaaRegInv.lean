/- Layer 7: two registers, what was wanted, and the last one: what a round of the law keeps. -/
import Derived.Test.YtknaimpnkflfnaaRegSet
import Derived.Test.YtknaimpnkflfnaaAncLays
import Derived.Test.YtknaimpnkflfnaaAncOpen
namespace Go.Proofs.Ytknaimpnkflfnaa
namespace Sha
open Go.RowKit Mem
def stepO (o : Option Anc) (a : Anc) : Option Anc := if mayA a then some a else o
def stepE (es : List Nat) (a : Anc) : List Nat := if mayA a then es ++ [a.epoch] else es
theorem stepE_len (es : List Nat) (a : Anc) : (stepE es a).length ≤ es.length + 1 := by unfold stepE; split <;> simp
theorem pset_any {F : Foot} {br : Nat} {w : World} {o : Option Anc} {es : List Nat} (h : PReg F br w o es) (a : Anc) (ha : a.Wf) (hl : es.length ≤ 1000) : Calls Try.prog 18 #[rr br, .agg (ancC a)] w fun e w' => e = .returned (.int .i64 (layE a)) ∧ RgEnd F br w (stepO o a) (stepE es a) w' := by
  unfold layE stepO stepE
  by_cases hm : mayA a = true
  · rw [if_pos hm, if_pos hm, if_pos hm]; exact pset_good h a ha hm hl
  · rw [if_neg hm, if_neg hm, if_neg hm]; exact pset_bad h a ha (by simpa using hm)
section
set_option maxHeartbeats 1000000
theorem nget_any (w : World) : Calls Try.prog 17 #[.pointer none] w fun e w' => e = .returned (.tuple #[.agg (ancC zanc), .int .i64 2]) ∧ Below w.heap.size w w' := by
  obtain ⟨Z, hZ⟩ : ∃ Z, Z = ancC zanc := ⟨_, rfl⟩
  have zs : Z.size = 71 := by rw [hZ]; exact ancC_size zanc_wf
  have zo : Z.all (·.oneCell') = true := by rw [hZ]; exact ancC_one _
  have hx : ∀ w, (zeroValue 31).run Try.prog w = .ok (.agg Z) w := by rw [hZ]; exact zeroAncP
  have bn : ∀ w, (Instr.build 31 #[]).run Try.prog w = .ok (.agg Z) w := by rw [hZ]; exact buildP0
  have az := at_new w Z 31
  have bz : Below w.heap.size w (w.alloc (.cells Z 31)) := (Below.refl _ _).alloc (Nat.le_refl _) _
  rw [← hZ]
  have ZS := Lib.hid zs; have ZO := Lib.hid zo; have BN := Lib.hid bn; have AZ := Lib.hid az; have BZ := Lib.hid bz
  clear zs zo bn az bz hZ
  go_enter Try.func17, Try.ntmps17
  go_upto_region 1 with fail
  clear hx
  generalize w.alloc (.cells Z 31) = w1 at *
  go_wp2_with (first
    | (refine Mem.wpList_build (by rfl) 31 _ #[] (.agg Z) (by rfl) (by simp) BN.out ?_)
    | (refine wpList_store_all (by rfl) 31 _ _ (by rfl) (by rfl) w.heap.size Z (by rfl) (by rfl) (by rw [ZS.out]; exact infoAncP) Z 31 AZ.out (by rfl) ZO.out ?_))
  try simp only [Exit.inBlock, Exit.then]
  refine ret_row_tmp (by rfl) w.heap.size 31 Z _ _ (by rfl) (by rfl) (AZ.out.row Z) Try.underlying31 (by rfl) (by rw [ZS.out]; exact infoAncP) ?_
  exact ⟨rfl, below_row BZ.out (Nat.le_refl _) Z⟩
theorem nset_any (M : Array Value) (w : World) : Calls Try.prog 18 #[.pointer none, .agg M] w fun e w' => e = .returned (.int .i64 2) ∧ Below w.heap.size w w' := by
  go_enter Try.func18, Try.ntmps18
  go_wp2_with fail
  go_ret
  exact ⟨rfl, (Below.refl _ _).alloc (Nat.le_refl _) _⟩
theorem nraw_any (w : World) : Calls Try.prog 19 #[.pointer none] w fun e w' => e = .returned (.slice none 0 0) ∧ w = w' := by
  go_enter Try.func19, Try.ntmps19
  go_wp2_with fail
  go_ret
  exact ⟨rfl, rfl⟩
theorem ncount_any (w : World) : Calls Try.prog 20 #[.pointer none] w fun e w' => e = .returned (.int .i64 0) ∧ w = w' := by
  go_enter Try.func20, Try.ntmps20
  go_wp2_with fail
  go_ret
  exact ⟨rfl, rfl⟩
theorem nepochs_any (w : World) : Calls Try.prog 21 #[.pointer none] w fun e w' => e = .returned (.slice none 0 0) ∧ w = w' := by
  go_enter Try.func21, Try.ntmps21
  go_wp2_with fail
  go_ret
  exact ⟨rfl, rfl⟩
end
def lastA (o : Option Anc) : Anc := (getA o).1
theorem lastA_wf {o : Option Anc} (h : ∀ a, o = some a → a.Wf ∧ mayA a = true) : (lastA o).Wf := by
  cases o with
  | none => exact zanc_wf
  | some a => exact (h a rfl).1
/-- Registers r (by now o1, e1) and z (o2, e2), the epochs that were wanted (e3, in vw); blocks of Pr are none of theirs. -/
structure RInv (w0 : World) (r z : Nat) (Pr : Foot) (o1 : Option Anc) (e1 : List Nat) (o2 : Option Anc) (e2 e3 : List Nat) (vw : Value) (W : World) : Prop where
  h : ∃ F1 F2 : Foot, PReg F1 r W o1 e1 ∧ PReg F2 z W o2 e2 ∧ (∀ k, F1 k → ¬ F2 k) ∧ (∀ k, F1 k → w0.heap.size ≤ k) ∧ (∀ k, F2 k → w0.heap.size ≤ k) ∧ (∀ k, Pr k → ¬ F1 k ∧ ¬ F2 k ∧ k < W.heap.size) ∧ ∀ k, vw.ownBlock = some k → ¬ F1 k ∧ ¬ F2 k ∧ ¬ Pr k
  own : W.ownsRow w0.heap.size 22 1 vw e3.length (u32n e3)
  base : Below w0.heap.size w0 W
theorem at_same {w w' : World} {b : Nat} {C : Array Value} {t : TypeId} (h : At w b C t) (e : w'.heap[b]? = w.heap[b]?) : At w' b C t := by
  unfold At at *; rw [e]; exact h
section
variable {w0 W W' : World} {r z bx : Nat} {Pr Pr' : Foot} {o1 o2 o1' o2' : Option Anc} {e1 e2 e3 e1' e2' e3' : List Nat} {vw vw' : Value}
theorem RInv.below (h : RInv w0 r z Pr o1 e1 o2 e2 e3 vw W) (hb : Below W.heap.size W W') : RInv w0 r z Pr o1 e1 o2 e2 e3 vw W' := by
  obtain ⟨F1, F2, p1, p2, d, f1, f2, hp, hv⟩ := h.h
  exact ⟨⟨F1, F2, p1.below hb, p2.below hb, d, f1, f2, fun k hk => ⟨(hp k hk).1, (hp k hk).2.1, Nat.lt_of_lt_of_le (hp k hk).2.2 hb.size⟩, hv⟩, ownsRow_below h.own hb, h.base.trans (hb.mono h.base.size)⟩
theorem RInv.mono (h : RInv w0 r z Pr o1 e1 o2 e2 e3 vw W) (hs : ∀ k, Pr' k → Pr k) : RInv w0 r z Pr' o1 e1 o2 e2 e3 vw W := by
  obtain ⟨F1, F2, p1, p2, d, f1, f2, hp, hv⟩ := h.h
  exact ⟨⟨F1, F2, p1, p2, d, f1, f2, fun k hk => hp k (hs k hk), fun k e => ⟨(hv k e).1, (hv k e).2.1, fun hk => (hv k e).2.2 (hs k hk)⟩⟩, h.own, h.base⟩
/-- One more block, made since, that is none of theirs. -/
theorem RInv.protect (h : RInv w0 r z Pr o1 e1 o2 e2 e3 vw W) (hb : Below W.heap.size W W') (h1 : W.heap.size ≤ bx) (h2 : bx < W'.heap.size) : RInv w0 r z (fun k => Pr k ∨ k = bx) o1 e1 o2 e2 e3 vw W' := by
  have h' := h.below hb
  obtain ⟨F1, F2, p1, p2, d, f1, f2, hp, hv⟩ := h.h
  have hs := hb.size
  refine ⟨⟨F1, F2, p1.below hb, p2.below hb, d, f1, f2, fun k hk => ?_, fun k e => ⟨(hv k e).1, (hv k e).2.1, fun hk => ?_⟩⟩, h'.own, h'.base⟩
  · rcases hk with hk | hk
    · exact ⟨(hp k hk).1, (hp k hk).2.1, Nat.lt_of_lt_of_le (hp k hk).2.2 hs⟩
    · exact ⟨fun hF => by have := p1.lt k hF; omega, fun hF => by have := p2.lt k hF; omega, by omega⟩
  · rcases hk with hk | hk
    · exact (hv k e).2.2 hk
    · have := (World.ownsRow.lt h.own k e).2; omega
theorem RInv.set1 (h : RInv w0 r z Pr o1 e1 o2 e2 e3 vw W) : ∃ F, PReg F r W o1 e1 ∧ ∀ o1' e1' W', RgEnd F r W o1' e1' W' → RInv w0 r z Pr o1' e1' o2 e2 e3 vw W' ∧ ∀ k, Pr k → W'.heap[k]? = W.heap[k]? := by
  obtain ⟨F1, F2, p1, p2, d, f1, f2, hp, hv⟩ := h.h
  refine ⟨F1, p1, fun o1' e1' W' hend => ?_⟩
  obtain ⟨⟨F', p1', hF⟩, hc⟩ := hend
  refine ⟨⟨⟨F', F2, p1', p2.chg hc (fun k h2 h1 => d k h1 h2), fun k hk h2 => ?_, fun k hk => ?_, f2, fun k hk => ⟨fun hk' => ?_, (hp k hk).2.1, Nat.lt_of_lt_of_le (hp k hk).2.2 hc.size⟩, fun k e => ⟨fun hk => ?_, (hv k e).2⟩⟩, ownsRow_keep h.own fun g e => hc.block g (World.ownsRow.lt h.own g e).2 (hv g e).1, hc.below h.base f1 h.base.size⟩, fun k hk => hc.block k (hp k hk).2.2 (hp k hk).1⟩
  · rcases hF k hk with h1 | h1
    · exact d k h1 h2
    · have := p2.lt k h2; omega
  · rcases hF k hk with h1 | h1
    · exact f1 k h1
    · have := h.base.size; omega
  · rcases hF _ hk' with h1 | h1
    · exact (hp k hk).1 h1
    · have := (hp k hk).2.2; omega
  · rcases hF _ hk with h1 | h1
    · exact (hv k e).1 h1
    · have := (World.ownsRow.lt h.own k e).2; omega
theorem RInv.set2 (h : RInv w0 r z Pr o1 e1 o2 e2 e3 vw W) : ∃ F, PReg F z W o2 e2 ∧ ∀ o2' e2' W', RgEnd F z W o2' e2' W' → RInv w0 r z Pr o1 e1 o2' e2' e3 vw W' ∧ ∀ k, Pr k → W'.heap[k]? = W.heap[k]? := by
  obtain ⟨F1, F2, p1, p2, d, f1, f2, hp, hv⟩ := h.h
  refine ⟨F2, p2, fun o2' e2' W' hend => ?_⟩
  obtain ⟨⟨F', p2', hF⟩, hc⟩ := hend
  refine ⟨⟨⟨F1, F', p1.chg hc (fun k h1 h2 => d k h1 h2), p2', fun k h1 hk => ?_, f1, fun k hk => ?_, fun k hk => ⟨(hp k hk).1, fun hk' => ?_, Nat.lt_of_lt_of_le (hp k hk).2.2 hc.size⟩, fun k e => ⟨(hv k e).1, fun hk => ?_, (hv k e).2.2⟩⟩, ownsRow_keep h.own fun g e => hc.block g (World.ownsRow.lt h.own g e).2 (hv g e).2.1, hc.below h.base f2 h.base.size⟩, fun k hk => hc.block k (hp k hk).2.2 (hp k hk).2.1⟩
  · rcases hF k hk with h2 | h2
    · exact d k h1 h2
    · have := p1.lt k h1; omega
  · rcases hF k hk with h2 | h2
    · exact f2 k h2
    · have := h.base.size; omega
  · rcases hF _ hk' with h2 | h2
    · exact (hp k hk).2.1 h2
    · have := (hp k hk).2.2; omega
  · rcases hF _ hk with h2 | h2
    · exact (hv k e).2.1 h2
    · have := (World.ownsRow.lt h.own k e).2; omega
theorem RInv.app (h : RInv w0 r z Pr o1 e1 o2 e2 e3 vw W) (ha : App W W' vw vw') (hb : Below w0.heap.size W W') (hown : W'.ownsRow w0.heap.size 22 1 vw' e3'.length (u32n e3')) : RInv w0 r z Pr o1 e1 o2 e2 e3' vw' W' ∧ ∀ k, Pr k → W'.heap[k]? = W.heap[k]? := by
  obtain ⟨F1, F2, p1, p2, d, f1, f2, hp, hv⟩ := h.h
  refine ⟨⟨⟨F1, F2, p1.keep ha.size fun k hF hk => ha.k k hk fun e => (hv k e).1 hF, p2.keep ha.size fun k hF hk => ha.k k hk fun e => (hv k e).2.1 hF, d, f1, f2, fun k hk => ⟨(hp k hk).1, (hp k hk).2.1, Nat.lt_of_lt_of_le (hp k hk).2.2 ha.size⟩, fun k e => ?_⟩, hown, h.base.trans hb⟩, fun k hk => ha.k k (hp k hk).2.2 fun e => (hv k e).2.2 hk⟩
  rcases ha.b with h1 | ⟨q, h1, h2⟩
  · rw [h1] at e; exact hv k e
  · rw [h1] at e
    have : q = k := by simpa using e
    exact ⟨fun h => by have := p1.lt k h; omega, fun h => by have := p2.lt k h; omega, fun h => by have := (hp k h).2.2; omega⟩
/-- A store into a block that is none of theirs. -/
theorem RInv.last (h : RInv w0 r z Pr o1 e1 o2 e2 e3 vw W) (hx : Pr bx) (h0 : w0.heap.size ≤ bx) (ho : ∀ k, k ≠ bx → W'.heap[k]? = W.heap[k]?) (hk : ∀ B x, Below B x W → B ≤ bx → Below B x W') : RInv w0 r z Pr o1 e1 o2 e2 e3 vw W' := by
  obtain ⟨F1, F2, p1, p2, d, f1, f2, hp, hv⟩ := h.h
  have hs := (hk bx W (Below.refl _ _) (Nat.le_refl _)).size
  exact ⟨⟨F1, F2, p1.keep hs fun k hF _ => ho k fun e => (hp bx hx).1 (e ▸ hF), p2.keep hs fun k hF _ => ho k fun e => (hp bx hx).2.1 (e ▸ hF), d, f1, f2, fun k hk => ⟨(hp k hk).1, (hp k hk).2.1, Nat.lt_of_lt_of_le (hp k hk).2.2 hs⟩, hv⟩, ownsRow_keep h.own fun g e => ho g fun e2 => (hv g e).2.2 (e2 ▸ hx), hk _ _ h.base h0⟩
theorem RInv.r1 (h : RInv w0 r z Pr o1 e1 o2 e2 e3 vw W) : ∃ F, PReg F r W o1 e1 := by
  obtain ⟨F1, _, p1, _⟩ := h.h; exact ⟨F1, p1⟩
theorem RInv.r2 (h : RInv w0 r z Pr o1 e1 o2 e2 e3 vw W) : ∃ F, PReg F z W o2 e2 := by
  obtain ⟨_, F2, _, p2, _⟩ := h.h; exact ⟨F2, p2⟩
theorem RInv.ok1 (h : RInv w0 r z Pr o1 e1 o2 e2 e3 vw W) : ∀ a, o1 = some a → a.Wf ∧ mayA a = true := by
  obtain ⟨F1, _, p1, _⟩ := h.h; exact p1.ok
theorem rinv_start {w1 w2 : World} (hr : PReg (fun k => k = r) r w1 none []) (hr0 : w0.heap.size ≤ r) (hb : Below w0.heap.size w0 w1) (hz : PReg (fun k => k = z) z w2 none []) (hb2 : Below w1.heap.size w1 w2) (hz0 : w1.heap.size ≤ z) (hb9 : Below w2.heap.size w2 W) (h90 : w2.heap.size ≤ bx) (h9 : bx < W.heap.size) :
    RInv w0 r z (fun k => k = bx) none [] none [] [] (.slice none 0 0) W := by
  have l1 := hr.lt r rfl
  have l2 := hz.lt z rfl
  have s1 := hb.size
  have s2 := hb2.size
  exact ⟨⟨_, _, (hr.below hb2).below hb9, hz.below hb9, fun k h1 h2 => by omega, fun k hk => by omega, fun k hk => by omega, fun k hk => ⟨by omega, by omega, by omega⟩, fun k e => by simp [Value.ownBlock] at e⟩, ownsRow_nil0 _ _ _ _, (hb.trans (hb2.mono s1)).trans (hb9.mono (by omega))⟩
end
theorem u32n_at {F : Foot} {w : World} {a : Option Addr} {n cap : Nat} {l : List Nat} (h : SlR F w 1 (.slice a n cap) n (u32n l)) {i : Nat} (hi : i < n) : ∃ b o, a = some ⟨b, o, none⟩ ∧ w.cell? ⟨b, o + i, none⟩ = some (.int .u32 ((l.getD i 0 : Nat) : Int)) := by
  obtain ⟨b, o, ea, _, hc⟩ := slR_at h hi
  refine ⟨b, o, ea, ?_⟩
  have h1 := hc 0 (by decide)
  have hl : i < l.length := by have := h.1; rw [u32n_length, Nat.mul_one] at this; omega
  rw [Nat.one_mul, Nat.add_zero] at h1
  rw [h1]
  simp [u32n, List.getD_eq_getElem?_getD, hl]
theorem slA_at {w : World} {a : Option Addr} {n cap : Nat} {l : List Anc} (h : SlA w (.slice a n cap) l) (hw : ∀ x ∈ l, x.Wf) {i : Nat} (hi : i < l.length) : ∃ b o, a = some ⟨b, o, none⟩ ∧ w.rangeAt b (o + i * 71) (ancL (l.getD i zanc)) := by
  obtain ⟨a', cap', e, _, hr⟩ := h
  injection e with e1 _ _
  obtain ⟨b, o, ea, _, hc⟩ := hr (fun h0 => by rw [h0] at hi; simp at hi)
  refine ⟨b, o, by rw [e1]; exact ea, fun j v hv => ?_⟩
  by_cases hj : j < 71
  · have h1 := hc i hi j hj
    rw [show o + i * 71 + j = o + (71 * i + j) by omega, h1]
    unfold ancC
    rw [List.getElem?_toArray]; exact hv
  · exfalso
    have hx : (l.getD i zanc).Wf := by
      rw [List.getD_eq_getElem?_getD, List.getElem?_eq_getElem hi]; exact hw _ (List.getElem_mem hi)
    have hs := ancC_size hx
    unfold ancC at hs
    have this : (ancL (l.getD i zanc)).length ≤ j := by rw [← List.size_toArray, hs]; omega
    rw [List.getElem?_eq_none this] at hv
    cases hv
end Sha
end Go.Proofs.Ytknaimpnkflfnaa
