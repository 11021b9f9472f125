/- Slices of bytes that read as lists, the call's own among them; blocks that are kept. -/
import Derived.Test.YteiffdccfmfdbaaKeep
namespace Go.Proofs.Yteiffdccfmfdbaa
namespace Sha
open Go.RowKit Mem
/-- A slice of bytes that reads as l, all in blocks below the world's size. -/
def Sl (w : World) (v : Value) (l : List (BitVec 8)) : Prop :=
  ∃ a cap, v = .slice a l.length cap ∧ l.length ≤ cap ∧ (l ≠ [] → ∃ bb oo, a = some ⟨bb, oo, none⟩ ∧ bb < w.heap.size ∧ ∀ i, i < l.length → w.cell? ⟨bb, oo + i, none⟩ = some (.int .u8 ((l.getD i 0).toNat : Int)))
theorem infoB : (Try.prog.info? 5).map (·.size) = some 1 := by kernel_rfl
theorem sl_drop {w : World} {bb oo m cap k : Nat} {a1 : Option Addr} {rest : List (BitVec 8)} (hm : m = rest.length) (hk : k ≤ m) (hcap : m ≤ cap) (hbb : bb < w.heap.size)
    (hc : ∀ i, i < rest.length → w.cell? ⟨bb, oo + i, none⟩ = some (.int .u8 ((rest.getD i 0).toNat : Int)))
    (ha : ∀ bb' oo', some (⟨bb, oo, none⟩ : Addr) = some ⟨bb', oo', none⟩ → k < cap → a1 = some ⟨bb', oo' + k, none⟩) : Sl w (.slice a1 (m - k) (cap - k)) (rest.drop k) := by
  refine ⟨a1, cap - k, by rw [List.length_drop, hm], by rw [List.length_drop]; omega, fun hne => ?_⟩
  have hlt : k < m := by
    rcases Nat.lt_or_ge k m with h | h
    · exact h
    · exact absurd (List.drop_of_length_le (by omega)) hne
  refine ⟨bb, oo + k, ha bb oo rfl (by omega), hbb, fun i hi => ?_⟩
  rw [List.length_drop] at hi
  have := hc (k + i) (by omega)
  rw [← Nat.add_assoc] at this
  rw [this]
  simp [List.getD_eq_getElem?_getD, List.getElem?_drop]
theorem Sl.below {w wr : World} {v : Value} {l : List (BitVec 8)} (h : Sl w v l) (hb : Below w.heap.size w wr) : Sl wr v l := by
  obtain ⟨a, cap, e, hc, hr⟩ := h
  refine ⟨a, cap, e, hc, fun hne => ?_⟩
  obtain ⟨bb, oo, ea, hlt, hcell⟩ := hr hne
  exact ⟨bb, oo, ea, Nat.lt_of_lt_of_le hlt hb.size, fun i hi => by rw [hb.cell (p := ⟨bb, oo + i, none⟩) hlt]; exact hcell i hi⟩
/-- v is the call's own slice of the bytes l, in a block from B on. -/
def OwnB (w : World) (B : Nat) (v : Value) (l : List (BitVec 8)) : Prop := w.ownsRow B 5 1 v l.length (u8s l)
theorem infoU8 : (Try.prog.info? 5).map (fun i => (i.zero, i.size, i.bytes)) = some (some (.int .u8 0), 1, 1) := by kernel_rfl
theorem OwnB.nil (w : World) (B : Nat) : OwnB w B (.slice none 0 0) [] := World.ownsRow_nil w B _ 1
theorem OwnB.open {w : World} {B : Nat} {v : Value} {l : List (BitVec 8)} (h : OwnB w B v l) : ∃ a cap, v = .slice a l.length cap ∧ l.length ≤ cap ∧
    (l ≠ [] → ∃ g, a = some ⟨g, 0, none⟩ ∧ B ≤ g ∧ g < w.heap.size ∧ ∀ i, i < l.length → w.cell? ⟨g, i, none⟩ = some (.int .u8 ((l.getD i 0).toNat : Int))) := by
  obtain ⟨_, h | ⟨g, cap, cur, rfl, hg, hh, hn, hc, hs, ht⟩⟩ := h
  · obtain ⟨rfl, h0⟩ := h
    exact ⟨none, 0, by rw [h0], by omega, fun hne => absurd (List.eq_nil_of_length_eq_zero h0) hne⟩
  · refine ⟨_, cap, rfl, hn, fun _ => ⟨g, rfl, hg, (Array.getElem?_eq_some_iff.1 hh).1, fun i hi => ?_⟩⟩
    rw [cell_of_row w g i cur _ (0, 0) hh]
    have h1 : (cur.toList.take (l.length * 1))[i]? = (u8s l)[i]? := by rw [ht]
    rw [List.getElem?_take, if_pos (by omega)] at h1
    rw [← Array.getElem?_toList, h1, u8s_get l i hi]
theorem OwnB.sl {w : World} {B : Nat} {v : Value} {l : List (BitVec 8)} (h : OwnB w B v l) : Sl w v l := by
  obtain ⟨a, cap, rfl, hc, hr⟩ := h.open
  refine ⟨a, cap, rfl, hc, fun hne => ?_⟩
  obtain ⟨g, ea, _, hlt, hcell⟩ := hr hne
  exact ⟨g, 0, ea, hlt, fun i hi => by rw [Nat.zero_add]; exact hcell i hi⟩
theorem OwnB.keep {w w' : World} {B : Nat} {v : Value} {l : List (BitVec 8)} (h : OwnB w B v l) (hk : ∀ g, v.ownBlock = some g → w'.heap[g]? = w.heap[g]?) : OwnB w' B v l := by
  refine ⟨h.1, ?_⟩
  rcases h.2 with hn | ⟨g, cap, cur, rfl, hg, hh, hr⟩
  · exact .inl hn
  · exact .inr ⟨g, cap, cur, rfl, hg, by rw [hk g rfl]; exact hh, hr⟩
theorem OwnB.lt {w : World} {B : Nat} {v : Value} {l : List (BitVec 8)} (h : OwnB w B v l) : ∀ k, v.ownBlock = some k → B ≤ k ∧ k < w.heap.size := World.ownsRow.lt h
theorem OwnB.below {w w' : World} {B : Nat} {v : Value} {l : List (BitVec 8)} (h : OwnB w B v l) (hb : Below w.heap.size w w') : OwnB w' B v l :=
  h.keep fun g hg => hb.block g (h.lt g hg).2
/-- A block of another type is another block. -/
theorem OwnB.ne_at {w : World} {B b : Nat} {v : Value} {l : List (BitVec 8)} {C : Array Value} {t : TypeId} (h : OwnB w B v l) (hC : At w b C t) (ht : t ≠ 5) : v.ownBlock ≠ some b := by
  rcases h.2 with ⟨rfl, _⟩ | ⟨g, cap, cur, rfl, hg, hh, hr⟩
  · simp [Value.ownBlock]
  · intro e
    have : g = b := by simpa [Value.ownBlock] using e
    subst this
    unfold At at hC
    rw [hh] at hC
    injection hC with hC
    injection hC with _ h2
    exact ht h2.symm
theorem run_append_nil_src {w : World} {B : Nat} {v : Value} {l : List (BitVec 8)} (h : OwnB w B v l) (ty : TypeId) (c : Nat) : (Builtin.append_ #[32, 32] ty #[v, .slice none 0 c]).run Try.prog w = .ok v w := by
  obtain ⟨i0, hi, _, _, _⟩ := info_parts infoU8
  rcases h.2 with ⟨rfl, _⟩ | ⟨g, cap, cur, rfl, _, _, hn, _⟩
  · simp [Builtin.append_, run_underlying Try.underlying32, sizeOf, typeInfo, hi, Builtin.lenOf, Builtin.firstCells]
  · simp [Builtin.append_, run_underlying Try.underlying32, sizeOf, typeInfo, hi, Builtin.lenOf, Builtin.firstCells, hn, storeCells]
set_option maxRecDepth 10000 in
theorem run_append_bytes {w : World} {B : Nat} {v vx : Value} {l m : List (BitVec 8)} (hown : OwnB w B v l) (hsl : Sl w vx m) (hlen : l.length + m.length ≤ 140737488355328) (hB : B ≤ w.heap.size) (ty : TypeId) :
    ∃ v' w', (Builtin.append_ #[32, 32] ty #[v, vx]).run Try.prog w = .ok v' w' ∧ OwnB w' B v' (l ++ m) ∧ w.grownBy w' v.ownBlock := by
  obtain ⟨a0, cap, rfl, hc, hr⟩ := hsl
  obtain ⟨i0, hi, hz0, hz1, hz2⟩ := info_parts infoU8
  have hml : maxLen = 281474976710656 ∨ 140737488355328 ≤ maxLen := .inr (by simp [maxLen])
  cases a0 with
  | none =>
    have hm : m = [] := by
      rcases m with _ | ⟨x, m⟩
      · rfl
      · obtain ⟨_, _, h, _⟩ := hr (by simp)
        cases h
    subst hm
    exact ⟨v, w, run_append_nil_src hown ty cap, by simpa using hown, World.grownBy.refl w _⟩
  | some ad =>
    have hcells : ∀ j u, (u8s m)[j]? = some u → w.cell? (ad.add j) = some u := by
      intro j u hu
      have hj : j < m.length := by
        have := (List.getElem?_eq_some_iff.1 hu).1
        rwa [u8s_length] at this
      obtain ⟨bb, oo, e, _, hcell⟩ := hr (by intro e; rw [e] at hj; simp at hj)
      injection e with e
      subst e
      rw [Addr.add_mid, hcell j hj, ← hu, u8s_get m j hj]
    have h1 : ∀ u ∈ u8s m, u.oneCell' = true := by
      intro u hu
      obtain ⟨x, _, rfl⟩ := List.mem_map.1 hu
      rfl
    obtain ⟨v', w', hrun, h2, h3, _, _⟩ := run_append_own_at (P := Try.prog) w B 32 ty 5 i0 (.int .u8 0) 1 1 Try.underlying32 hi hz0 hz1 hz2 rfl (by decide) v l.length (u8s l) hown ad m.length cap (u8s m) (by rw [u8s_length, Nat.mul_one]) hcells h1 (by rcases hml with h | h <;> omega) (by omega) hB
    refine ⟨v', w', hrun, ?_, h3⟩
    unfold OwnB
    rw [List.length_append, show u8s (l ++ m) = u8s l ++ u8s m by simp [u8s]]
    exact h2
theorem wpList_append_bytes {w : World} {ops : Array Oper} {rest : List Oper} {o : Oper} {a : Act} {Q : Exit → Act → World → Prop} (hgd : o.guard = none) (s x : Operand)
    (ho : o.op = .call { callee := .builtin .append, args := #[s, x], argTypes := #[32, 32] }) (B : Nat) (v vx : Value) (l m : List (BitVec 8))
    (hs : a.eval s = v) (hown : OwnB w B v l) (hx : a.eval x = vx) (hsl : Sl w vx m) (hlen : l.length + m.length ≤ 140737488355328) (hB : B ≤ w.heap.size)
    (h : ∀ v' w', OwnB w' B v' (l ++ m) → (∀ k, k < w.heap.size → v.ownBlock ≠ some k → w'.heap[k]? = w.heap[k]?) → Below B w w' → wpList Try.prog ops Q rest (a.put o.dst v') w') : wpList Try.prog ops Q (o :: rest) a w := by
  refine wpList_plain hgd fun K hK => ?_
  obtain ⟨v', w', hrun, h2, h3⟩ := run_append_bytes hown hsl hlen hB o.type
  unfold Oper.wp execOp
  simp only [ho, resolve, invoke, builtin, Sem.run_bind, Sem.run_pure, Result.andThen_ok, List.map_toArray, List.map_cons, List.map_nil, hs, hx, hrun]
  exact hK _ _ (h v' w' h2 (fun k hk hne => h3.block k hk (fun e => hne e.symm)) ((Below.refl _ _).grown h3 hB (fun g hg => (hown.lt g hg).1)))
/-- copy of a slice of bytes, nil or not, into a part of a block known whole. -/
theorem wpList_copy_sl {w : World} {ops : Array Oper} {rest : List Oper} {op : Oper} {a : Act} {Q : Exit → Act → World → Prop} (hgd : op.guard = none) (x y : Operand)
    (ho : op.op = .call { callee := .builtin .copy, args := #[x, y], argTypes := #[32, 32] }) (b o dLen dCap : Nat) (vy : Value) (l : List (BitVec 8)) (hx : a.eval x = .slice (some ⟨b, o, none⟩) dLen dCap) (hy : a.eval y = vy) (hl : Sl w vy l)
    (k : Nat) (hk : k = Nat.min l.length dLen) (C : Array Value) (t : TypeId) (hC : At w b C t) (hfit : o + k ≤ C.size) (E : Array Value) (hE : Mem.splice C o (u8s (l.take k)) = E)
    (h : ∀ w', At w' b E t → w'.heap.size = w.heap.size → (∀ k, k ≠ b → w'.heap[k]? = w.heap[k]?) → (∀ B a, Below B a w → B ≤ b → Below B a w') → wpList Try.prog ops Q rest (a.put op.dst (.int .i64 (k : Int))) w') : wpList Try.prog ops Q (op :: rest) a w := by
  obtain ⟨a0, cap, rfl, _, hr⟩ := hl
  have hkl : k ≤ l.length := by rw [hk]; exact Nat.min_le_left _ _
  have hlen : (u8s (l.take k)).length = k := by rw [u8s_length, List.length_take]; omega
  by_cases h0 : k = 0
  · subst h0
    refine wpList_copy_nothing hgd x y _ _ ho 5 Try.underlying32 infoB (some ⟨b, o, none⟩) a0 dLen dCap l.length cap hx hy hk.symm ?_
    have hEC : E = C := by rw [← hE]; simp [Mem.splice, u8s]
    rw [hEC] at h
    exact h w hC rfl (fun _ _ => rfl) (fun _ _ hb _ => hb)
  · obtain ⟨bb, oo, rfl, _, hc⟩ := hr (by intro e; rw [e] at hkl; simp at hkl; omega)
    refine wpList_copy_at hgd x y _ _ ho 5 Try.underlying32 infoB b o dLen dCap ⟨bb, oo, none⟩ l.length cap hx hy (u8s (l.take k)) (by rw [hlen]; exact hk) (fun j v hj => ?_) (fun v hv => ?_) C t hC (by rw [hlen]; exact hfit) E hE k hlen h
    · have hjk : j < k := by
        have := (List.getElem?_eq_some_iff.1 hj).1
        rwa [hlen] at this
      rw [Addr.add_mid, hc j (by omega), ← hj, u8s_get _ _ (by rw [List.length_take]; omega)]
      simp [List.getD_eq_getElem?_getD, hjk]
    · obtain ⟨_, _, rfl⟩ := List.mem_map.1 hv
      rfl
/-- Two digests of the same bytes are the same. -/
theorem eql_bytes {P : Program} (w : World) (t e : TypeId) (n : Nat) (x y : Operand) (ht : P.underlying t = some (.array n e)) (he : P.underlying e = some (.int .u8)) (hsz : (P.info? e).map (·.size) = some 1) (hg : P.eqGuardType P.depth t = false) (l m : List (BitVec 8)) (hl : l.length = n) (hm : m.length = n) :
    (do eqGuard .eql t x y (.agg (u8s l).toArray) (.agg (u8s m).toArray); binOp .eql t (.agg (u8s l).toArray) (.agg (u8s m).toArray) : Sem Value).run P w = .ok (.bool (l == m)) w := by
  have e1 : ∀ k : List (BitVec 8), u8s k = (k.map UInt8.ofBitVec).map Extern.Stop.cell := fun k => by simp [u8s, Extern.Stop.cell, UInt8.toNat]
  have hs1 : ∀ w, (sizeOf e).run P w = .ok 1 w := fun w => by
    cases hq : P.info? e with
    | none => simp [hq] at hsz
    | some q => simp [sizeOf, typeInfo, hq, show q.size = 1 by simpa [hq] using hsz]
  have e2 : ((l.map UInt8.ofBitVec) == (m.map UInt8.ofBitVec)) = (l == m) := by
    rw [Bool.eq_iff_iff, beq_iff_eq, beq_iff_eq]
    exact (List.map_inj_right (fun a b h => by injection h)).trans Iff.rfl
  rw [Sem.run_bind, run_eqGuard_agg w .eql t x y _ _ hg, Result.andThen_ok, e1, e1, run_eql_bytes w t e n ht he hs1 _ _ (by simpa using hl) (by simpa using hm), e2]
theorem ownV_B {w : World} {B : Nat} {v : Value} {l : List (BitVec 8)} (h : OwnV w B 5 v (u8s l)) : OwnB w B v l := by
  unfold OwnV at h
  rw [u8s_length] at h
  exact h
theorem ownB_V {w : World} {B : Nat} {v : Value} {l : List (BitVec 8)} (h : OwnB w B v l) : OwnV w B 5 v (u8s l) := by
  unfold OwnV
  rw [u8s_length]
  exact h
theorem elemB8 : elemB Try.prog 32 5 (.int .u8 0) 1 := ⟨Try.underlying32, infoU8⟩
def PadEnd (w : World) (T : List (BitVec 8)) (e : Ending) (w' : World) : Prop := ∃ v, e = .returned v ∧ OwnB w' w.heap.size v T ∧ Below w.heap.size w w'
theorem sl_rd {w : World} {v : Value} {l : List (BitVec 8)} (h : Sl w v l) : Rd w v (u8s l) := by
  obtain ⟨a, c, rfl, _, hr⟩ := h
  refine ⟨a, c, by rw [u8s_length], fun hne => ?_⟩
  obtain ⟨b, o, rfl, _, hc⟩ := hr (by intro e; rw [e] at hne; exact hne rfl)
  refine ⟨_, rfl, fun i u hu => ?_⟩
  have hi : i < l.length := by
    have := (List.getElem?_eq_some_iff.1 hu).1
    rwa [u8s_length] at this
  rw [Addr.add_mid, hc i hi, ← u8s_get l i hi, hu]
theorem at_sl {w : World} {b n : Nat} {l : List (BitVec 8)} {t : TypeId} (h : At w b (u8s l).toArray t) (hn : l.length = n) : Sl w (.slice (some ⟨b, 0, none⟩) n n) l := by
  subst hn
  refine ⟨_, _, rfl, Nat.le_refl _, fun _ => ⟨b, 0, rfl, h.lt, fun i hi => ?_⟩⟩
  rw [Nat.zero_add, h.cell, List.getElem?_toArray, u8s_get l i hi]
theorem at_sl_take {w : World} {b n k : Nat} {l : List (BitVec 8)} {t : TypeId} (h : At w b (u8s l).toArray t) (hk : l.length = k) (hn : n ≤ k) : Sl w (.slice (some ⟨b, 0, none⟩) n k) (l.take n) := by
  have hl : (l.take n).length = n := by rw [List.length_take]; omega
  refine ⟨_, k, by rw [hl], by rw [hl]; exact hn, fun _ => ⟨b, 0, rfl, h.lt, fun i hi => ?_⟩⟩
  rw [hl] at hi
  rw [Nat.zero_add, h.cell, List.getElem?_toArray, u8s_get l i (by omega)]
  simp [List.getD_eq_getElem?_getD, hi]
theorem sl_at {w : World} {a : Option Addr} {cap : Nat} {l : List (BitVec 8)} (h : Sl w (.slice a l.length cap) l) {i : Nat} (hi : i < l.length) :
    ∃ b o, a = some ⟨b, o, none⟩ ∧ w.cell? ⟨b, o + i, none⟩ = some (.int .u8 (B8 (l.getD i 0))) := by
  obtain ⟨a', cap', e, _, hr⟩ := h
  injection e with e1 _ _
  obtain ⟨b, o, ea, _, hc⟩ := hr (by intro e; rw [e] at hi; simp at hi)
  exact ⟨b, o, by rw [e1]; exact ea, hc i hi⟩
/-- An own slice that fills its block. -/
theorem own_full {w : World} {B g n : Nat} {e : TypeId} {xs : List Value} (h : w.ownsRow B e 1 (.slice (some ⟨g, 0, none⟩) n n) n xs) : At w g xs.toArray e := by
  obtain ⟨hl, h | ⟨g', cap, cur, e1, _, hh, _, _, hc, ht⟩⟩ := h
  · cases h.1
  · injection e1 with e1 _ e2
    injection e1 with e1
    injection e1 with e1
    subst e1; subst e2
    have : cur = xs.toArray := by
      rw [← ht, List.take_of_length_le (by simp [hc])]
    rw [← this]; exact hh
theorem made_zeros (n : Nat) : (madeCells (Value.int .u8 0).cells (n * 1)).toList = u8s (List.replicate n 0) := by
  rw [madeCells, Nat.mul_one]
  apply List.ext_getElem
  · simp [u8s]
  · intro i h1 h2
    simp [u8s, Value.cells, Nat.mod_one]
end Sha
end Go.Proofs.Yteiffdccfmfdbaa
