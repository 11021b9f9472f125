/- The program's meter: its account; New, Reserve, Done, Last, Now, Left. -/
import Derived.Test.YtmpibofkihfiiaaEpC
namespace Go.Proofs.Ytmpibofkihfiiaa
namespace Sha
open Go.RowKit Mem
/-- The blocks that were used in an epoch. -/
def blks (now : Int) (l : List EU) : List Int := (l.filter fun p => decide (p.1 = now)).map (·.2)
theorem mem_blks {now x : Int} {l : List EU} : x ∈ blks now l ↔ (now, x) ∈ l := by
  unfold blks
  simp only [List.mem_map, List.mem_filter, decide_eq_true_eq]
  constructor
  · rintro ⟨⟨a, c⟩, ⟨h1, rfl⟩, rfl⟩; exact h1
  · intro h; exact ⟨(now, x), ⟨h, rfl⟩, rfl⟩
theorem blks_nil {now : Int} {l : List EU} (h : ∀ p ∈ l, p.1 ≠ now) : blks now l = [] := by
  unfold blks
  rw [List.map_eq_nil_iff, List.filter_eq_nil_iff]
  intro p hp; simpa using h p hp
/-- Block bm is the map of the blocks xs. -/
abbrev BSet (w : World) (bm : Nat) (xs : List Int) : Prop := SetM w Try.prog 3 unitElem (.agg []) (fun x : Int => (Lit.int .i64 x).wf = true) (fun x => .int .i64 x) bm xs
theorem BSet.ne_at {w : World} {bm b : Nat} {xs : List Int} {C : Array Value} {t : TypeId} (h : BSet w bm xs) (k : At w b C t) : bm ≠ b := by
  rintro rfl
  obtain ⟨n, D, ⟨es, clock, h1, _⟩, _⟩ := h
  unfold At at k
  rw [h1] at k
  injection k with k
  injection k
theorem BSet.ne_own {w : World} {bm B z n : Nat} {e : TypeId} {v : Value} {xs : List Int} {ys : List Value} (h : BSet w bm xs) (k : w.ownsRow B e z v n ys) : v.ownBlock ≠ some bm := by
  rcases k.2 with ⟨rfl, _⟩ | ⟨g, cap, cur, rfl, hg, hh, hr⟩
  · simp [Value.ownBlock]
  · intro e
    have : g = bm := by simpa [Value.ownBlock] using e
    subst this
    obtain ⟨n, D, ⟨es, clock, h1, _⟩, _⟩ := h
    rw [h1] at hh
    injection hh with hh
    injection hh
def pmC (last now : Int) (mp v : Value) : Array Value := #[.int .u32 last, .int .u32 now, mp, v]
/-- Block b holds the program's meter m; mp: the map of the blocks; v: the uses. -/
structure PMv (F : Foot) (b : Nat) (w : World) (m : Mtr) (mp v : Value) : Prop where
  row : At w b (pmC m.last m.now mp v) 56
  one : mp.oneCell' = true
  own : w.ownsRow 0 43 2 v m.l.length (euCs m.l)
  ownF : ∀ k, v.ownBlock = some k → F k
  bF : F b
  lt : ∀ k, F k → k < w.heap.size
  map : m.now ≠ 0 → ∃ bm, mp = .map (some bm) ∧ F bm ∧ BSet w bm (blks m.now m.l)
def PMt : EAcc := fun F b w m => ∃ mp v, PMv F b w m mp v
theorem PMv.keep {F : Foot} {b : Nat} {w w' : World} {m : Mtr} {mp v : Value} (h : PMv F b w m mp v) (hs : w.heap.size ≤ w'.heap.size) (hk : ∀ k, F k → k < w.heap.size → w'.heap[k]? = w.heap[k]?) : PMv F b w' m mp v := by
  refine ⟨?_, h.one, ownsRow_keep h.own fun g hg => hk g (h.ownF g hg) (h.lt g (h.ownF g hg)), h.ownF, h.bF, fun k hF => Nat.lt_of_lt_of_le (h.lt k hF) hs, fun hn => ?_⟩
  · have := h.row
    unfold At at *
    rw [hk b h.bF (h.lt b h.bF)]; exact this
  · obtain ⟨bm, e, hF, hset⟩ := h.map hn
    exact ⟨bm, e, hF, hset.same (hk bm hF (h.lt bm hF))⟩
/-- The box was written over; the uses stay. -/
theorem pm_turn {F : Foot} {b : Nat} {w w' : World} {m m' : Mtr} {mp mp' v : Value} (h : PMv F b w m mp v) (ha : At w' b (pmC m'.last m'.now mp' v) 56) (hb : Below b w w') (hk : ∀ k, k < w.heap.size → k ≠ b → w'.heap[k]? = w.heap[k]?) (hl : m'.l = m.l) (ho : mp'.oneCell' = true)
    (hm : m'.now ≠ 0 → ∃ bm, mp' = .map (some bm) ∧ (F bm ∨ w.heap.size ≤ bm) ∧ BSet w' bm (blks m'.now m'.l)) : EEnd PMt F b w m' w' := by
  have hs : w.heap.size ≤ w'.heap.size := hb.size
  refine ⟨⟨grow F w w', ⟨mp', v, ⟨ha, ho, ?_, fun k hv => ⟨.inl (h.ownF k hv), Nat.lt_of_lt_of_le (h.lt k (h.ownF k hv)) hs⟩, ⟨.inl h.bF, ha.lt⟩, grow_lt, fun hn => ?_⟩⟩, grow_ext⟩, ⟨hb.os, hb.tape, hb.output, hs, fun k hlt hn => hk k hlt fun e => hn (e ▸ h.bF)⟩⟩
  · rw [hl]
    exact ownsRow_keep h.own fun g hg => hk g (h.lt g (h.ownF g hg)) fun e => own_ne_at h.own h.row (by decide) (e ▸ hg)
  · obtain ⟨bm, e, hF, hset⟩ := hm hn
    exact ⟨bm, e, ⟨hF, hset.lt⟩, hset⟩
theorem pm_same {F : Foot} {b : Nat} {w w' : World} {m : Mtr} {mp v : Value} (h : PMv F b w m mp v) (hb : Below w.heap.size w w') : EEnd PMt F b w m w' :=
  ⟨⟨F, ⟨mp, v, h.keep hb.size fun k _ hk => hb.block k hk⟩, fun _ hk => .inl hk⟩, Chg.of_below hb⟩
theorem pnew_any (last : Int) (w : World) : Calls Try.prog 7 #[.int .u32 last] w fun e w' => ∃ b F, e = .returned (mq b) ∧ PMt F b w' (Mtr.new last) ∧ (∀ k, F k → w.heap.size ≤ k) ∧ Below w.heap.size w w' := by
  have hn := at_new w (pmC last 0 (.map none) (.slice none 0 0)) 56
  have hb : Below w.heap.size w (w.alloc (.cells (pmC last 0 (.map none) (.slice none 0 0)) 56)) := (Below.refl _ _).alloc (Nat.le_refl _) _
  have HN := Lib.hid hn; have HB := Lib.hid hb
  clear hn hb
  go_enter Try.func7, Try.ntmps7
  go_wp2_with fail
  go_ret
  exact ⟨w.heap.size, fun k => k = w.heap.size, rfl, ⟨.map none, .slice none 0 0, HN.out, rfl, ownsRow_nil0 _ _ _ _, fun k h => by simp [Value.ownBlock] at h, rfl, fun k hk => by rw [hk]; exact HN.out.lt, fun h => absurd rfl h⟩, fun k hk => by rw [hk]; exact Nat.le_refl _, HB.out⟩
set_option maxRecDepth 100000 in
set_option maxHeartbeats 1000000 in
theorem plast_any {F : Foot} {b : Nat} {m : Mtr} (w : World) (h : PMt F b w m) : Calls Try.prog 13 #[mq b] w (Told8 w (.int .u32 m.last)) := by
  obtain ⟨mp, v, h⟩ := h
  have c0 : w.cell? ⟨b, 0, none⟩ = some (.int .u32 m.last) := by rw [h.row.cell]; rfl
  clear h
  go_enter Try.func13, Try.ntmps13
  go_wp2_with fail
  go_ret
  exact ⟨rfl, Below.refl _ _⟩
set_option maxRecDepth 100000 in
set_option maxHeartbeats 1000000 in
theorem pnow_any {F : Foot} {b : Nat} {m : Mtr} (w : World) (h : PMt F b w m) : Calls Try.prog 14 #[mq b] w (Told8 w (.int .u32 m.now)) := by
  obtain ⟨mp, v, h⟩ := h
  have c0 : w.cell? ⟨b, 1, none⟩ = some (.int .u32 m.now) := by rw [h.row.cell]; rfl
  clear h
  go_enter Try.func14, Try.ntmps14
  go_wp2_with fail
  go_ret
  exact ⟨rfl, Below.refl _ _⟩
set_option maxRecDepth 100000 in
set_option maxHeartbeats 1000000 in
theorem pleft_any {F : Foot} {b n : Nat} {m : Mtr} (w : World) (h : PMt F b w m) (ok : OkM n m) : Calls Try.prog 15 #[mq b] w (Told8 w (.int .u32 (4294967295 - m.last))) := by
  obtain ⟨mp, v, h⟩ := h
  have c0 : w.cell? ⟨b, 0, none⟩ = some (.int .u32 m.last) := by rw [h.row.cell]; rfl
  have l0 := ok.l0
  have l1 := ok.l1
  clear h ok
  generalize m.last = q at *
  go_enter Try.func15, Try.ntmps15
  go_wp2_with fail
  go_ret
  exact ⟨rfl, Below.refl _ _⟩
theorem infoMapB : (Try.prog.info? 54).map (·.size) = some 1 := by kernel_rfl
set_option maxRecDepth 100000 in
set_option maxHeartbeats 1000000 in
theorem pdone_any {F : Foot} {b : Nat} {m : Mtr} (w : World) (h : PMt F b w m) : Calls Try.prog 20 #[mq b] w fun e w' => e = .returned (.int .i64 m.done.2) ∧ EEnd PMt F b w m.done.1 w' := by
  obtain ⟨mp, v, h⟩ := h
  obtain ⟨last, now, l⟩ := m
  have c1 : w.cell? ⟨b, 1, none⟩ = some (.int .u32 now) := by rw [h.row.cell]; rfl
  have H := Lib.hid h
  clear h
  by_cases g1 : now = 0
  · subst g1
    go_enter Try.func20, Try.ntmps20
    go_wp2_with fail
    go_ret
    exact ⟨by simp [Mtr.done], by simpa [Mtr.done] using pm_same H.out (Below.refl _ _)⟩
  · go_enter Try.func20, Try.ntmps20
    go_wp2_with (first
      | (refine Mem.wpList_store_one (by rfl) 22 _ _ (by rfl) (by rfl) b 1 (.int .u32 0) (by rfl) (by rfl) (by rfl) infoU32' _ 56 H.out.row (by simp [pmC]) ?_; intro w8 ha ho hk; have A8 : Hid (At w8 b (pmC last 0 mp v) 56) := Lib.hid (by have := ha; simpa [pmC] using this); have O8 := Lib.hid ho; have K8 := Lib.hid hk; clear ha ho hk)
      | (refine Mem.wpList_store_one (by rfl) 54 _ _ (by rfl) (by rfl) b 2 (.map none) (by rfl) (by rfl) (by rfl) infoMapB _ 56 A8.out (by simp [pmC]) ?_; intro w9 ha ho hk; have A9 : Hid (At w9 b (pmC last 0 (.map none) v) 56) := Lib.hid (by have := ha; simpa [pmC] using this); have O9 := Lib.hid ho; have K9 := Lib.hid hk; clear ha ho hk))
    go_ret
    have e0 : (⟨last, now, l⟩ : Mtr).done = (⟨last, 0, l⟩, 0) := by simp [Mtr.done, g1]
    rw [e0]
    exact ⟨rfl, pm_turn (m' := ⟨last, 0, l⟩) H.out A9.out (K9.out b w (K8.out b w (Below.refl _ _) (Nat.le_refl _)) (Nat.le_refl _)) (fun k _ hk => (O9.out k hk).trans (O8.out k hk)) rfl rfl fun h => absurd rfl h⟩
set_option maxRecDepth 100000 in
set_option maxHeartbeats 1000000 in
theorem preserve_any {F : Foot} {b n : Nat} {m : Mtr} (w : World) (h : PMt F b w m) (ok : OkM n m) : Calls Try.prog 18 #[mq b] w fun e w' => e = .returned (.tuple #[.int .u32 m.reserve.2.1, .int .i64 m.reserve.2.2]) ∧ EEnd PMt F b w m.reserve.1 w' := by
  obtain ⟨mp, v, h⟩ := h
  obtain ⟨last, now, l⟩ := m
  have c0 : w.cell? ⟨b, 0, none⟩ = some (.int .u32 last) := by rw [h.row.cell]; rfl
  have c1 : w.cell? ⟨b, 1, none⟩ = some (.int .u32 now) := by rw [h.row.cell]; rfl
  have hl0 : 0 ≤ last := ok.l0
  have hl1 : last ≤ 4294967295 := ok.l1
  have H := Lib.hid h; have OK := Lib.hid ok
  clear h ok
  by_cases g1 : now = 0
  · subst g1
    by_cases g2 : last = 4294967295
    · subst g2
      go_enter Try.func18, Try.ntmps18
      go_wp2_with fail
      go_ret2
      exact ⟨by simp [Mtr.reserve, Most], by simpa [Mtr.reserve, Most] using pm_same H.out (Below.refl _ _)⟩
    · have hlt : last < 4294967295 := by omega
      go_enter Try.func18, Try.ntmps18
      go_wp2_with (first
        | (refine Mem.wpList_store_one (by rfl) 22 _ _ (by rfl) (by rfl) b 0 (.int .u32 (last + 1)) (by rfl) (by rfl) (by rfl) infoU32' _ 56 H.out.row (by simp [pmC]) ?_; intro w8 ha ho hk; have A8 : Hid (At w8 b (pmC (last + 1) 0 mp v) 56) := Lib.hid (by have := ha; simpa [pmC] using this); have d0 : w8.cell? ⟨b, 0, none⟩ = some (.int .u32 (last + 1)) := (by rw [A8.out.cell]; rfl); have O8 := Lib.hid ho; have K8 := Lib.hid hk; clear ha ho hk)
        | (refine Mem.wpList_store_one (by rfl) 22 _ _ (by rfl) (by rfl) b 1 (.int .u32 (last + 1)) (by rfl) (by rfl) (by rfl) infoU32' _ 56 A8.out (by simp [pmC]) ?_; intro w9 ha ho hk; have A9 : Hid (At w9 b (pmC (last + 1) (last + 1) mp v) 56) := Lib.hid (by have := ha; simpa [pmC] using this); have O9 := Lib.hid ho; have K9 := Lib.hid hk; clear ha ho hk)
        | (refine wpList_map_made (by rfl) 54 (by rfl) ?_; have A10 : Hid (At (w9.alloc (.map #[] 0)) b (pmC (last + 1) (last + 1) mp v) 56) := Lib.hid (A9.out.alloc _); have S10 : Hid (BSet (w9.alloc (.map #[] 0)) w9.heap.size []) := setM_made w9 _ _ _ _ _ _)
        | (refine Mem.wpList_store_one (by rfl) 54 _ _ (by rfl) (by rfl) b 2 (.map (some w9.heap.size)) (by rfl) (by rfl) (by rfl) infoMapB _ 56 A10.out (by simp [pmC]) ?_; intro w11 ha ho hk; have A11 : Hid (At w11 b (pmC (last + 1) (last + 1) (.map (some w9.heap.size)) v) 56) := Lib.hid (by have := ha; simpa [pmC] using this); have f1 : w11.cell? ⟨b, 1, none⟩ = some (.int .u32 (last + 1)) := (by rw [A11.out.cell]; rfl); have O11 := Lib.hid ho; have K11 := Lib.hid hk; clear ha ho hk))
      go_ret2
      have hm : ¬ last = Most := g2
      have e0 : (⟨last, 0, l⟩ : Mtr).reserve = (⟨last + 1, last + 1, l⟩, last + 1, 0) := by simp [Mtr.reserve, hm]
      rw [e0]
      have k9 := K9.out b w (K8.out b w (Below.refl _ _) (Nat.le_refl _)) (Nat.le_refl _)
      have hbl : b ≤ w9.heap.size := Nat.le_of_lt A9.out.lt
      have k11 := K11.out b w (k9.alloc hbl (.map #[] 0)) (Nat.le_refl _)
      have hne : w9.heap.size ≠ b := by have := A9.out.lt; omega
      refine ⟨rfl, pm_turn (m' := ⟨last + 1, last + 1, l⟩) H.out A11.out k11 (fun k hlt hk => ?_) rfl rfl fun _ => ⟨w9.heap.size, rfl, .inr k9.size, ?_⟩⟩
      · have e1 : (w9.alloc (.map #[] 0)).heap[k]? = w9.heap[k]? := ((Below.refl w9.heap.size w9).alloc (Nat.le_refl _) (.map #[] 0)).block k (Nat.lt_of_lt_of_le hlt k9.size)
        exact (O11.out k hk).trans (e1.trans ((O9.out k hk).trans (O8.out k hk)))
      · have hn : blks (last + 1) l = [] := blks_nil fun p hp => by
          have := (OK.out.uses p hp).2.1
          have : p.1 ≤ last := this
          omega
        show BSet w11 w9.heap.size (blks (last + 1) l)
        rw [hn]
        exact S10.out.same (O11.out _ hne)
  · go_enter Try.func18, Try.ntmps18
    go_wp2_with fail
    go_ret2
    exact ⟨by simp [Mtr.reserve, g1], by simpa [Mtr.reserve, g1] using pm_same H.out (Below.refl _ _)⟩
end Sha
end Go.Proofs.Ytmpibofkihfiiaa
