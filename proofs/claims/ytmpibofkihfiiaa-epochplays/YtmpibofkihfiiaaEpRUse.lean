/- The document's Use (written by epruse.py). -/
import Derived.Test.YtmpibofkihfiiaaEpEq
import Derived.Test.YtmpibofkihfiiaaPlan3
import Derived.Deep.Heap
namespace Go.Proofs.Ytmpibofkihfiiaa
namespace Sha
open Go.RowKit Mem
/-- Block g holds the document's meter m; its uses lie in blocks of F. -/
structure RMt (F : Foot) (g : Nat) (m : Mtr) (v : Value) (w : World) : Prop where
  row : At w g (rmC m.last m.now v) 28
  one : v.oneCell' = true
  sl : SlR F w 2 v m.l.length (euCs m.l)
  ng : ¬ F g
theorem size_setCell (w : World) (a : Addr) (v : Value) : (w.setCell a v).heap.size = w.heap.size := by simp [World.setCell]
theorem infoUS : (Try.prog.info? 26).map (·.size) = some 1 := by kernel_rfl
theorem infoURs : (Try.prog.info? 44).map (·.size) = some 2 := by kernel_rfl
/-- The worlds of the last region: all but g as it was, and g's second cell. -/
def SM (g : Nat) (now : Int) (w x : World) : Prop := But g w x ∧ x.cell? ⟨g, 1, none⟩ = some (.int .u32 now)
theorem sm_below {g : Nat} {last now : Int} {v : Value} {w x : World} (h : At w g (rmC last now v) 28) (hb : Below w.heap.size w x) : SM g now w x :=
  ⟨⟨hb.size, fun k hk _ => hb.block k hk⟩, by rw [(h.below hb h.lt).cell]; rfl⟩
theorem sm_set {g : Nat} {last now : Int} {v v' : Value} {w x : World} (h : At w g (rmC last now v) 28) (hb : Below w.heap.size w x) : SM g now w (x.setCell ⟨g, 2, none⟩ v') :=
  ⟨⟨by rw [size_setCell]; exact hb.size, fun k hk hne => (heap_setCell_other x ⟨g, 2, none⟩ k _ hne).trans (hb.block k hk)⟩, by rw [((h.below hb h.lt).set 2 v').cell]; simp [rmC]⟩
theorem rmt_end {F : Foot} {g : Nat} {last now b : Int} {l : List EU} {v v' : Value} {n cap : Nat} {a : Option Addr} {w wr w1 : World} (h : RMt F g ⟨last, now, l⟩ v w) (hb : Below w.heap.size w wr) (hb1 : Below wr.heap.size wr w1)
    (ho : w1.ownsRow wr.heap.size 44 2 (.slice a n cap) n (euCs l ++ [.int .u32 now, .int .i64 b])) (hn : n = l.length + 1) (hv : v' = .slice a n cap) :
    RMt (grow F w (w1.setCell ⟨g, 2, none⟩ v')) g ⟨last, now, l ++ [(now, b)]⟩ v' (w1.setCell ⟨g, 2, none⟩ v') ∧ Chg (fun k => k = g) w (w1.setCell ⟨g, 2, none⟩ v') := by
  have hlt := h.row.lt
  have hw : Below w.heap.size w w1 := hb.trans (hb1.mono hb.size)
  subst hv
  refine ⟨⟨?_, rfl, ?_, fun hg => ?_⟩, ⟨hw.os, hw.tape, hw.output, by rw [size_setCell]; exact hw.size, fun k hk hne => (heap_setCell_other w1 ⟨g, 2, none⟩ k _ hne).trans (hw.block k hk)⟩⟩
  · have := (h.row.below hw hlt).set 2 (.slice a n cap)
    simpa [rmC] using this
  · have h1 := ownsRow_slR ho
    rw [show (⟨last, now, l ++ [(now, b)]⟩ : Mtr).l.length = n by simp [hn], show euCs (⟨last, now, l ++ [(now, b)]⟩ : Mtr).l = euCs l ++ [.int .u32 now, .int .i64 b] by rw [euCs_snoc]]
    refine SlR.mono (h1.keep (by rw [size_setCell]; exact Nat.le_refl _) fun k hk _ => heap_setCell_other w1 ⟨g, 2, none⟩ k _ (by show k ≠ g; have := hb.size; omega)) fun k hk hk2 => ⟨.inr (by have := hb.size; omega), hk2⟩
  · exact hg.1.elim h.ng (fun h2 => by omega)
theorem rmt_same {F : Foot} {g : Nat} {m : Mtr} {v : Value} {w w1 : World} (h : RMt F g m v w) (hb : Below w.heap.size w w1) : RMt (grow F w w1) g m v w1 ∧ Chg (fun k => k = g) w w1 := by
  have hlt := h.row.lt
  exact ⟨⟨h.row.below hb hlt, h.one, (h.sl.below hb).mono fun k hk hk2 => ⟨.inl hk, hk2⟩, fun hg => hg.1.elim h.ng (fun h2 => by omega)⟩, Chg.of_below hb⟩
theorem buildUR (now b : Int) (w : World) : (Instr.build 44 #[(0, .int .u32 now), (1, .int .i64 b)]).run Try.prog w = .ok (.agg (euC (now, b))) w := by kernel_rfl
set_option maxRecDepth 100000 in
set_option maxHeartbeats 4000000 in
theorem ruse_any {F : Foot} {g : Nat} {m : Mtr} {v : Value} (b : Int) (w : World) (h : RMt F g m v w) (hl : m.l.length ≤ 100000) :
    Calls Try.prog 12 #[mq g, .int .i64 b] w fun e w' => e = .returned (.int .i64 (m.use b).2) ∧ Chg (fun k => k = g) w w' ∧ ∃ v', RMt (grow F w w') g (m.use b).1 v' w' := by
  obtain ⟨last, now, l⟩ := m
  have hl : l.length ≤ 100000 := hl
  have c1 : w.cell? ⟨g, 1, none⟩ = some (.int .u32 now) := by rw [h.row.cell]; rfl
  have hS := rmt_same h (Below.refl _ _)
  by_cases g1 : now = 0
  · subst g1
    have HS := Lib.hid hS
    clear hS h
    go_enter Try.func12, Try.ntmps12
    go_wp2_with fail
    go_ret
    exact ⟨by simp [Mtr.use], HS.out.2, v, by simpa [Mtr.use] using HS.out.1⟩
  · by_cases g2 : b < 0
    · have HS := Lib.hid hS
      clear hS h
      go_enter Try.func12, Try.ntmps12
      go_wp2_with fail
      go_ret
      exact ⟨by simp [Mtr.use, g2], HS.out.2, v, by simpa [Mtr.use, g2] using HS.out.1⟩
    · clear hS
      obtain ⟨_, a, cap, rfl, _, _⟩ := id h.sl
      obtain ⟨n, hn⟩ : ∃ n, n = l.length := ⟨_, rfl⟩
      have h0 : RMt F g ⟨last, now, l⟩ (.slice a n cap) w := by rw [hn]; exact h
      rw [← hn] at hl
      have H := Lib.hid h0; have HN := Lib.hid hn
      clear h h0 hn
      go_enter Try.func12, Try.ntmps12
      go_wp2_with fail
      go_loopw [5] (fun i wr => ∃ j : Nat, j ≤ n ∧ i = .int .i64 j ∧ Below w.heap.size w wr ∧ (now, b) ∉ l.take j) (fun i _ => n - (intOf i).toNat)
      case atStart => exact ⟨0, by omega, rfl, Below.refl _ _, by simp⟩
      case round =>
        clear c1
        obtain ⟨j, hj, rfl, hb, hnot⟩ := hrel
        have hrow := H.out.row.below hb H.out.row.lt
        have c1 : wr.cell? ⟨g, 1, none⟩ = some (.int .u32 now) := by rw [hrow.cell]; rfl
        have c2 : wr.cell? ⟨g, 2, none⟩ = some (.slice a n cap) := by rw [hrow.cell]; rfl
        have hsl : SlR F wr 2 (.slice a n cap) l.length (euCs l) := H.out.sl.below hb
        rw [← HN.out] at hsl
        have HB := Lib.hid hb; have NOT := Lib.hid hnot; have ROW := Lib.hid hrow; have SL := Lib.hid hsl
        clear hb hnot hrow hsl
        by_cases hlt : j < n
        · have hlt' : (j : Int) < (n : Int) := by omega
          have hat := eu_range SL.out HN.out hlt
          obtain ⟨b1, o1, rfl, _, hb1, hrg⟩ := hat
          have RG := Lib.hid hrg
          clear hrg
          go_wp2_with fail
          refine wp_region_plan (.take 0 (.take 1 (.take 2 (.take 3 (.take 4 (.take 5 (.take 6 (.take 7 (.take 8 (.take 9 (.take 10 (.take 11 (.take 12 (.take 13 .done)))))))))))))) (by kernel_rfl) (by kernel_rfl) (by kernel_rfl) ?_
          (first | (refine plan_move _ _ (by rfl) (by rfl) (.inl (by rfl)) (by first | (with_reducible exact Mem.ev_const _ _) | (with_reducible exact Mem.ev_zero _ _ _) | (with_reducible (apply Eq.trans (Mem.ev_tmp _ _ _)); simp only [List.getD_cons_succ, List.getD_cons_zero] <;> rfl)) ?_) | (refine plan_move _ _ (by rfl) (by rfl) (.inr (by rfl)) (by first | (with_reducible exact Mem.ev_const _ _) | (with_reducible exact Mem.ev_zero _ _ _) | (with_reducible (apply Eq.trans (Mem.ev_tmp _ _ _)); simp only [List.getD_cons_succ, List.getD_cons_zero] <;> rfl)) ?_) | (refine plan_pick_t _ _ _ _ (by rfl) (by rfl) (by rfl) (by first | (with_reducible exact Mem.ev_const _ _) | (with_reducible exact Mem.ev_zero _ _ _) | (with_reducible (apply Eq.trans (Mem.ev_tmp _ _ _)); simp only [List.getD_cons_succ, List.getD_cons_zero] <;> rfl)) (by first | (with_reducible exact Mem.ev_const _ _) | (with_reducible exact Mem.ev_zero _ _ _) | (with_reducible (apply Eq.trans (Mem.ev_tmp _ _ _)); simp only [List.getD_cons_succ, List.getD_cons_zero] <;> rfl)) ?_) | (refine plan_pick_f _ _ _ _ (by rfl) (by rfl) (by rfl) (by first | (with_reducible exact Mem.ev_const _ _) | (with_reducible exact Mem.ev_zero _ _ _) | (with_reducible (apply Eq.trans (Mem.ev_tmp _ _ _)); simp only [List.getD_cons_succ, List.getD_cons_zero] <;> rfl)) (by first | (with_reducible exact Mem.ev_const _ _) | (with_reducible exact Mem.ev_zero _ _ _) | (with_reducible (apply Eq.trans (Mem.ev_tmp _ _ _)); simp only [List.getD_cons_succ, List.getD_cons_zero] <;> rfl)) ?_))
          (simp only [Act.put, List.setIfInBounds_toArray, List.set_cons_zero, List.set_cons_succ])
          refine plan_nilcheck _ ⟨g, 0, none⟩ (by rfl) (by rfl) (by rfl) (by first | (with_reducible exact Mem.ev_const _ _) | (with_reducible exact Mem.ev_zero _ _ _) | (with_reducible (apply Eq.trans (Mem.ev_tmp _ _ _)); simp only [List.getD_cons_succ, List.getD_cons_zero] <;> rfl)) ?_
          (simp only [Act.put, List.setIfInBounds_toArray, List.set_cons_zero, List.set_cons_succ])
          refine plan_field 28 _ 2 g 0 ⟨g, 2, none⟩ (by rfl) (by rfl) (by rfl) (by first | (with_reducible exact Mem.ev_const _ _) | (with_reducible exact Mem.ev_zero _ _ _) | (with_reducible (apply Eq.trans (Mem.ev_tmp _ _ _)); simp only [List.getD_cons_succ, List.getD_cons_zero] <;> rfl)) (fun wx => by go_simp) ?_
          (simp only [Act.put, List.setIfInBounds_toArray, List.set_cons_zero, List.set_cons_succ])
          refine plan_cell 26 _ _ (.slice (some ⟨b1, o1, none⟩) n cap) _ (by rfl) (by rfl) (by rfl) (by first | (with_reducible exact Mem.ev_const _ _) | (with_reducible exact Mem.ev_zero _ _ _) | (with_reducible (apply Eq.trans (Mem.ev_tmp _ _ _)); simp only [List.getD_cons_succ, List.getD_cons_zero] <;> rfl)) (fun w' hw' => (hw'.cell (p := ⟨g, 2, none⟩) ROW.out.lt).trans c2) Try.underlying26 (by rfl) ?_
          (simp only [Act.put, List.setIfInBounds_toArray, List.set_cons_zero, List.set_cons_succ])
          (first | (refine plan_move _ _ (by rfl) (by rfl) (.inl (by rfl)) (by first | (with_reducible exact Mem.ev_const _ _) | (with_reducible exact Mem.ev_zero _ _ _) | (with_reducible (apply Eq.trans (Mem.ev_tmp _ _ _)); simp only [List.getD_cons_succ, List.getD_cons_zero] <;> rfl)) ?_) | (refine plan_move _ _ (by rfl) (by rfl) (.inr (by rfl)) (by first | (with_reducible exact Mem.ev_const _ _) | (with_reducible exact Mem.ev_zero _ _ _) | (with_reducible (apply Eq.trans (Mem.ev_tmp _ _ _)); simp only [List.getD_cons_succ, List.getD_cons_zero] <;> rfl)) ?_) | (refine plan_pick_t _ _ _ _ (by rfl) (by rfl) (by rfl) (by first | (with_reducible exact Mem.ev_const _ _) | (with_reducible exact Mem.ev_zero _ _ _) | (with_reducible (apply Eq.trans (Mem.ev_tmp _ _ _)); simp only [List.getD_cons_succ, List.getD_cons_zero] <;> rfl)) (by first | (with_reducible exact Mem.ev_const _ _) | (with_reducible exact Mem.ev_zero _ _ _) | (with_reducible (apply Eq.trans (Mem.ev_tmp _ _ _)); simp only [List.getD_cons_succ, List.getD_cons_zero] <;> rfl)) ?_) | (refine plan_pick_f _ _ _ _ (by rfl) (by rfl) (by rfl) (by first | (with_reducible exact Mem.ev_const _ _) | (with_reducible exact Mem.ev_zero _ _ _) | (with_reducible (apply Eq.trans (Mem.ev_tmp _ _ _)); simp only [List.getD_cons_succ, List.getD_cons_zero] <;> rfl)) (by first | (with_reducible exact Mem.ev_const _ _) | (with_reducible exact Mem.ev_zero _ _ _) | (with_reducible (apply Eq.trans (Mem.ev_tmp _ _ _)); simp only [List.getD_cons_succ, List.getD_cons_zero] <;> rfl)) ?_))
          (simp only [Act.put, List.setIfInBounds_toArray, List.set_cons_zero, List.set_cons_succ])
          refine plan_index_z 26 44 _ _ b1 o1 n cap 2 j (by rfl) (by rfl) (by rfl) (by first | (with_reducible exact Mem.ev_const _ _) | (with_reducible exact Mem.ev_zero _ _ _) | (with_reducible (apply Eq.trans (Mem.ev_tmp _ _ _)); simp only [List.getD_cons_succ, List.getD_cons_zero] <;> rfl)) (by first | (with_reducible exact Mem.ev_const _ _) | (with_reducible exact Mem.ev_zero _ _ _) | (with_reducible (apply Eq.trans (Mem.ev_tmp _ _ _)); simp only [List.getD_cons_succ, List.getD_cons_zero] <;> rfl)) hlt Try.underlying26 infoURs ?_
          (simp only [Act.put, List.setIfInBounds_toArray, List.set_cons_zero, List.set_cons_succ])
          refine plan_load_range 44 _ b1 (o1 + j * 2) _ (euC (l.getD j (0, 0))) (by rfl) (by rfl) (by rfl) (by first | (with_reducible exact Mem.ev_const _ _) | (with_reducible exact Mem.ev_zero _ _ _) | (with_reducible (apply Eq.trans (Mem.ev_tmp _ _ _)); simp only [List.getD_cons_succ, List.getD_cons_zero] <;> rfl)) (fun w' hw' k u hu => (hw'.cell (p := ⟨b1, o1 + j * 2 + k, none⟩) hb1).trans (RG.out k u hu)) Try.underlying44 (by rfl) infoURs ?_
          (simp only [Act.put, List.setIfInBounds_toArray, List.set_cons_zero, List.set_cons_succ])
          (first | (refine plan_move _ _ (by rfl) (by rfl) (.inl (by rfl)) (by first | (with_reducible exact Mem.ev_const _ _) | (with_reducible exact Mem.ev_zero _ _ _) | (with_reducible (apply Eq.trans (Mem.ev_tmp _ _ _)); simp only [List.getD_cons_succ, List.getD_cons_zero] <;> rfl)) ?_) | (refine plan_move _ _ (by rfl) (by rfl) (.inr (by rfl)) (by first | (with_reducible exact Mem.ev_const _ _) | (with_reducible exact Mem.ev_zero _ _ _) | (with_reducible (apply Eq.trans (Mem.ev_tmp _ _ _)); simp only [List.getD_cons_succ, List.getD_cons_zero] <;> rfl)) ?_) | (refine plan_pick_t _ _ _ _ (by rfl) (by rfl) (by rfl) (by first | (with_reducible exact Mem.ev_const _ _) | (with_reducible exact Mem.ev_zero _ _ _) | (with_reducible (apply Eq.trans (Mem.ev_tmp _ _ _)); simp only [List.getD_cons_succ, List.getD_cons_zero] <;> rfl)) (by first | (with_reducible exact Mem.ev_const _ _) | (with_reducible exact Mem.ev_zero _ _ _) | (with_reducible (apply Eq.trans (Mem.ev_tmp _ _ _)); simp only [List.getD_cons_succ, List.getD_cons_zero] <;> rfl)) ?_) | (refine plan_pick_f _ _ _ _ (by rfl) (by rfl) (by rfl) (by first | (with_reducible exact Mem.ev_const _ _) | (with_reducible exact Mem.ev_zero _ _ _) | (with_reducible (apply Eq.trans (Mem.ev_tmp _ _ _)); simp only [List.getD_cons_succ, List.getD_cons_zero] <;> rfl)) (by first | (with_reducible exact Mem.ev_const _ _) | (with_reducible exact Mem.ev_zero _ _ _) | (with_reducible (apply Eq.trans (Mem.ev_tmp _ _ _)); simp only [List.getD_cons_succ, List.getD_cons_zero] <;> rfl)) ?_))
          (simp only [Act.put, List.setIfInBounds_toArray, List.set_cons_zero, List.set_cons_succ])
          refine plan_nilcheck _ ⟨g, 0, none⟩ (by rfl) (by rfl) (by rfl) (by first | (with_reducible exact Mem.ev_const _ _) | (with_reducible exact Mem.ev_zero _ _ _) | (with_reducible (apply Eq.trans (Mem.ev_tmp _ _ _)); simp only [List.getD_cons_succ, List.getD_cons_zero] <;> rfl)) ?_
          (simp only [Act.put, List.setIfInBounds_toArray, List.set_cons_zero, List.set_cons_succ])
          refine plan_field 28 _ 1 g 0 ⟨g, 1, none⟩ (by rfl) (by rfl) (by rfl) (by first | (with_reducible exact Mem.ev_const _ _) | (with_reducible exact Mem.ev_zero _ _ _) | (with_reducible (apply Eq.trans (Mem.ev_tmp _ _ _)); simp only [List.getD_cons_succ, List.getD_cons_zero] <;> rfl)) (fun wx => by go_simp) ?_
          (simp only [Act.put, List.setIfInBounds_toArray, List.set_cons_zero, List.set_cons_succ])
          refine plan_cell 22 _ _ (.int .u32 now) _ (by rfl) (by rfl) (by rfl) (by first | (with_reducible exact Mem.ev_const _ _) | (with_reducible exact Mem.ev_zero _ _ _) | (with_reducible (apply Eq.trans (Mem.ev_tmp _ _ _)); simp only [List.getD_cons_succ, List.getD_cons_zero] <;> rfl)) (fun w' hw' => (hw'.cell (p := ⟨g, 1, none⟩) ROW.out.lt).trans c1) Try.underlying22 (by rfl) ?_
          (simp only [Act.put, List.setIfInBounds_toArray, List.set_cons_zero, List.set_cons_succ])
          (first | (refine plan_move _ _ (by rfl) (by rfl) (.inl (by rfl)) (by first | (with_reducible exact Mem.ev_const _ _) | (with_reducible exact Mem.ev_zero _ _ _) | (with_reducible (apply Eq.trans (Mem.ev_tmp _ _ _)); simp only [List.getD_cons_succ, List.getD_cons_zero] <;> rfl)) ?_) | (refine plan_move _ _ (by rfl) (by rfl) (.inr (by rfl)) (by first | (with_reducible exact Mem.ev_const _ _) | (with_reducible exact Mem.ev_zero _ _ _) | (with_reducible (apply Eq.trans (Mem.ev_tmp _ _ _)); simp only [List.getD_cons_succ, List.getD_cons_zero] <;> rfl)) ?_) | (refine plan_pick_t _ _ _ _ (by rfl) (by rfl) (by rfl) (by first | (with_reducible exact Mem.ev_const _ _) | (with_reducible exact Mem.ev_zero _ _ _) | (with_reducible (apply Eq.trans (Mem.ev_tmp _ _ _)); simp only [List.getD_cons_succ, List.getD_cons_zero] <;> rfl)) (by first | (with_reducible exact Mem.ev_const _ _) | (with_reducible exact Mem.ev_zero _ _ _) | (with_reducible (apply Eq.trans (Mem.ev_tmp _ _ _)); simp only [List.getD_cons_succ, List.getD_cons_zero] <;> rfl)) ?_) | (refine plan_pick_f _ _ _ _ (by rfl) (by rfl) (by rfl) (by first | (with_reducible exact Mem.ev_const _ _) | (with_reducible exact Mem.ev_zero _ _ _) | (with_reducible (apply Eq.trans (Mem.ev_tmp _ _ _)); simp only [List.getD_cons_succ, List.getD_cons_zero] <;> rfl)) (by first | (with_reducible exact Mem.ev_const _ _) | (with_reducible exact Mem.ev_zero _ _ _) | (with_reducible (apply Eq.trans (Mem.ev_tmp _ _ _)); simp only [List.getD_cons_succ, List.getD_cons_zero] <;> rfl)) ?_))
          (simp only [Act.put, List.setIfInBounds_toArray, List.set_cons_zero, List.set_cons_succ])
          refine plan_build _ _ #[(0, .int .u32 now), (1, .int .i64 b)] (.agg (euC (now, b))) (by rfl) (by rfl) (by rfl) (by simp only [List.map_toArray, List.map_cons, List.map_nil, Mem.ev_tmp, List.getD_cons_succ, List.getD_cons_zero]) (fun w' => buildUR now b w') ?_
          (simp only [Act.put, List.setIfInBounds_toArray, List.set_cons_zero, List.set_cons_succ])
          refine plan_bin _ _ _ _ _ _ _ _ (by rfl) (by rfl) (by rfl) (by first | (with_reducible exact Mem.ev_const _ _) | (with_reducible exact Mem.ev_zero _ _ _) | (with_reducible (apply Eq.trans (Mem.ev_tmp _ _ _)); simp only [List.getD_cons_succ, List.getD_cons_zero] <;> rfl)) (by first | (with_reducible exact Mem.ev_const _ _) | (with_reducible exact Mem.ev_zero _ _ _) | (with_reducible (apply Eq.trans (Mem.ev_tmp _ _ _)); simp only [List.getD_cons_succ, List.getD_cons_zero] <;> rfl)) (fun wx => eqlR (l.getD j (0, 0)) (now, b) _ _ wx) ?_
          (simp only [Act.put, List.setIfInBounds_toArray, List.set_cons_zero, List.set_cons_succ])
          refine plan_nil ?_
          have hgd : l.getD j (0, 0) = l[j]'(by rw [← HN.out]; exact hlt) := by rw [List.getD_eq_getElem?_getD, List.getElem?_eq_getElem (by rw [← HN.out]; exact hlt)]; rfl
          by_cases he : l.getD j (0, 0) = (now, b)
          · have hd : decide (l.getD j (0, 0) = (now, b)) = true := decide_eq_true he
            have hm : (now, b) ∈ l := by rw [← he, hgd]; exact List.getElem_mem _
            rw [hd]
            clear hd
            have hS := rmt_same H.out (HB.out.drew)
            have HS := Lib.hid hS; have HM := Lib.hid hm; have G2 := Lib.hid g2; have G1 := Lib.hid g1
            clear hS hm hgd he g2 g1
            go_wp2_with fail
            go_ret
            have h1 := G1.out; have h2 : ¬ b < 0 := (by have := G2.out; omega); have h3 := HM.out
            exact ⟨by simp [Mtr.use, h1, h2, h3], HS.out.2, _, by simpa [Mtr.use, h1, h2, h3] using HS.out.1⟩
          · have hd : decide (l.getD j (0, 0) = (now, b)) = false := decide_eq_false he
            have hnx : (now, b) ∉ l.take (j + 1) := by
              rw [List.take_add_one, List.getElem?_eq_getElem (by rw [← HN.out]; exact hlt)]
              intro hm
              rcases List.mem_append.1 hm with h1 | h1
              · exact NOT.out h1
              · simp at h1; exact he (by rw [hgd, ← h1])
            rw [hd]
            clear hd
            have NX := Lib.hid hnx
            clear hnx hgd he
            go_wp2_with fail
            go_roundw
            case rel => exact ⟨j + 1, by omega, by go_num, HB.out.drew, NX.out⟩
            case measure => simp [intOf]; omega
        · have hj2 : j = n := by omega
          have hge : ¬ (j : Int) < (n : Int) := by omega
          have hnot : (now, b) ∉ l := by have := NOT.out; rw [hj2, HN.out, List.take_length] at this; exact this
          have NN := Lib.hid hnot; have G2 := Lib.hid g2; have G1 := Lib.hid g1
          clear hnot NOT hj hlt
          go_wp2_with fail
          refine wp_region_plan_in (fun x => SM g now wr x) (.take 0 (.take 1 (.take 2 (.take 3 (.take 6 (.take 7 (.take 8 (.take 9 (.take 10 (.take 11 (.two 4 12 (.two 5 12 (.sole 12 (.sole 13 (.take 14 (.take 15 (.sole 16 .done))))) (.sole 5 (.sole 13 (.take 14 (.take 15 (.sole 16 .done)))))) (.sole 4 (.sole 5 (.sole 13 (.take 14 (.take 15 (.sole 16 .done))))))))))))))))) (by kernel_rfl) (by kernel_rfl) (by kernel_rfl) (sm_below ROW.out ((Below.refl _ _).drew)) ?_
          (first | (refine plan_move _ _ (by rfl) (by rfl) (.inl (by rfl)) (by first | (with_reducible exact Mem.ev_const _ _) | (with_reducible exact Mem.ev_zero _ _ _) | (with_reducible (apply Eq.trans (Mem.ev_tmp _ _ _)); simp only [List.getD_cons_succ, List.getD_cons_zero] <;> rfl)) ?_) | (refine plan_move _ _ (by rfl) (by rfl) (.inr (by rfl)) (by first | (with_reducible exact Mem.ev_const _ _) | (with_reducible exact Mem.ev_zero _ _ _) | (with_reducible (apply Eq.trans (Mem.ev_tmp _ _ _)); simp only [List.getD_cons_succ, List.getD_cons_zero] <;> rfl)) ?_) | (refine plan_pick_t _ _ _ _ (by rfl) (by rfl) (by rfl) (by first | (with_reducible exact Mem.ev_const _ _) | (with_reducible exact Mem.ev_zero _ _ _) | (with_reducible (apply Eq.trans (Mem.ev_tmp _ _ _)); simp only [List.getD_cons_succ, List.getD_cons_zero] <;> rfl)) (by first | (with_reducible exact Mem.ev_const _ _) | (with_reducible exact Mem.ev_zero _ _ _) | (with_reducible (apply Eq.trans (Mem.ev_tmp _ _ _)); simp only [List.getD_cons_succ, List.getD_cons_zero] <;> rfl)) ?_) | (refine plan_pick_f _ _ _ _ (by rfl) (by rfl) (by rfl) (by first | (with_reducible exact Mem.ev_const _ _) | (with_reducible exact Mem.ev_zero _ _ _) | (with_reducible (apply Eq.trans (Mem.ev_tmp _ _ _)); simp only [List.getD_cons_succ, List.getD_cons_zero] <;> rfl)) (by first | (with_reducible exact Mem.ev_const _ _) | (with_reducible exact Mem.ev_zero _ _ _) | (with_reducible (apply Eq.trans (Mem.ev_tmp _ _ _)); simp only [List.getD_cons_succ, List.getD_cons_zero] <;> rfl)) ?_))
          (simp only [Act.put, List.setIfInBounds_toArray, List.set_cons_zero, List.set_cons_succ])
          (first | (refine plan_move _ _ (by rfl) (by rfl) (.inl (by rfl)) (by first | (with_reducible exact Mem.ev_const _ _) | (with_reducible exact Mem.ev_zero _ _ _) | (with_reducible (apply Eq.trans (Mem.ev_tmp _ _ _)); simp only [List.getD_cons_succ, List.getD_cons_zero] <;> rfl)) ?_) | (refine plan_move _ _ (by rfl) (by rfl) (.inr (by rfl)) (by first | (with_reducible exact Mem.ev_const _ _) | (with_reducible exact Mem.ev_zero _ _ _) | (with_reducible (apply Eq.trans (Mem.ev_tmp _ _ _)); simp only [List.getD_cons_succ, List.getD_cons_zero] <;> rfl)) ?_) | (refine plan_pick_t _ _ _ _ (by rfl) (by rfl) (by rfl) (by first | (with_reducible exact Mem.ev_const _ _) | (with_reducible exact Mem.ev_zero _ _ _) | (with_reducible (apply Eq.trans (Mem.ev_tmp _ _ _)); simp only [List.getD_cons_succ, List.getD_cons_zero] <;> rfl)) (by first | (with_reducible exact Mem.ev_const _ _) | (with_reducible exact Mem.ev_zero _ _ _) | (with_reducible (apply Eq.trans (Mem.ev_tmp _ _ _)); simp only [List.getD_cons_succ, List.getD_cons_zero] <;> rfl)) ?_) | (refine plan_pick_f _ _ _ _ (by rfl) (by rfl) (by rfl) (by first | (with_reducible exact Mem.ev_const _ _) | (with_reducible exact Mem.ev_zero _ _ _) | (with_reducible (apply Eq.trans (Mem.ev_tmp _ _ _)); simp only [List.getD_cons_succ, List.getD_cons_zero] <;> rfl)) (by first | (with_reducible exact Mem.ev_const _ _) | (with_reducible exact Mem.ev_zero _ _ _) | (with_reducible (apply Eq.trans (Mem.ev_tmp _ _ _)); simp only [List.getD_cons_succ, List.getD_cons_zero] <;> rfl)) ?_))
          (simp only [Act.put, List.setIfInBounds_toArray, List.set_cons_zero, List.set_cons_succ])
          refine plan_nilcheck _ ⟨g, 0, none⟩ (by rfl) (by rfl) (by rfl) (by first | (with_reducible exact Mem.ev_const _ _) | (with_reducible exact Mem.ev_zero _ _ _) | (with_reducible (apply Eq.trans (Mem.ev_tmp _ _ _)); simp only [List.getD_cons_succ, List.getD_cons_zero] <;> rfl)) ?_
          (simp only [Act.put, List.setIfInBounds_toArray, List.set_cons_zero, List.set_cons_succ])
          refine plan_field 28 _ 2 g 0 ⟨g, 2, none⟩ (by rfl) (by rfl) (by rfl) (by first | (with_reducible exact Mem.ev_const _ _) | (with_reducible exact Mem.ev_zero _ _ _) | (with_reducible (apply Eq.trans (Mem.ev_tmp _ _ _)); simp only [List.getD_cons_succ, List.getD_cons_zero] <;> rfl)) (fun wx => by go_simp) ?_
          (simp only [Act.put, List.setIfInBounds_toArray, List.set_cons_zero, List.set_cons_succ])
          (first | (refine plan_move _ _ (by rfl) (by rfl) (.inl (by rfl)) (by first | (with_reducible exact Mem.ev_const _ _) | (with_reducible exact Mem.ev_zero _ _ _) | (with_reducible (apply Eq.trans (Mem.ev_tmp _ _ _)); simp only [List.getD_cons_succ, List.getD_cons_zero] <;> rfl)) ?_) | (refine plan_move _ _ (by rfl) (by rfl) (.inr (by rfl)) (by first | (with_reducible exact Mem.ev_const _ _) | (with_reducible exact Mem.ev_zero _ _ _) | (with_reducible (apply Eq.trans (Mem.ev_tmp _ _ _)); simp only [List.getD_cons_succ, List.getD_cons_zero] <;> rfl)) ?_) | (refine plan_pick_t _ _ _ _ (by rfl) (by rfl) (by rfl) (by first | (with_reducible exact Mem.ev_const _ _) | (with_reducible exact Mem.ev_zero _ _ _) | (with_reducible (apply Eq.trans (Mem.ev_tmp _ _ _)); simp only [List.getD_cons_succ, List.getD_cons_zero] <;> rfl)) (by first | (with_reducible exact Mem.ev_const _ _) | (with_reducible exact Mem.ev_zero _ _ _) | (with_reducible (apply Eq.trans (Mem.ev_tmp _ _ _)); simp only [List.getD_cons_succ, List.getD_cons_zero] <;> rfl)) ?_) | (refine plan_pick_f _ _ _ _ (by rfl) (by rfl) (by rfl) (by first | (with_reducible exact Mem.ev_const _ _) | (with_reducible exact Mem.ev_zero _ _ _) | (with_reducible (apply Eq.trans (Mem.ev_tmp _ _ _)); simp only [List.getD_cons_succ, List.getD_cons_zero] <;> rfl)) (by first | (with_reducible exact Mem.ev_const _ _) | (with_reducible exact Mem.ev_zero _ _ _) | (with_reducible (apply Eq.trans (Mem.ev_tmp _ _ _)); simp only [List.getD_cons_succ, List.getD_cons_zero] <;> rfl)) ?_))
          (simp only [Act.put, List.setIfInBounds_toArray, List.set_cons_zero, List.set_cons_succ])
          refine plan_nilcheck _ ⟨g, 0, none⟩ (by rfl) (by rfl) (by rfl) (by first | (with_reducible exact Mem.ev_const _ _) | (with_reducible exact Mem.ev_zero _ _ _) | (with_reducible (apply Eq.trans (Mem.ev_tmp _ _ _)); simp only [List.getD_cons_succ, List.getD_cons_zero] <;> rfl)) ?_
          (simp only [Act.put, List.setIfInBounds_toArray, List.set_cons_zero, List.set_cons_succ])
          refine plan_field 28 _ 1 g 0 ⟨g, 1, none⟩ (by rfl) (by rfl) (by rfl) (by first | (with_reducible exact Mem.ev_const _ _) | (with_reducible exact Mem.ev_zero _ _ _) | (with_reducible (apply Eq.trans (Mem.ev_tmp _ _ _)); simp only [List.getD_cons_succ, List.getD_cons_zero] <;> rfl)) (fun wx => by go_simp) ?_
          (simp only [Act.put, List.setIfInBounds_toArray, List.set_cons_zero, List.set_cons_succ])
          refine plan_cell 22 _ _ (.int .u32 now) _ (by rfl) (by rfl) (by rfl) (by first | (with_reducible exact Mem.ev_const _ _) | (with_reducible exact Mem.ev_zero _ _ _) | (with_reducible (apply Eq.trans (Mem.ev_tmp _ _ _)); simp only [List.getD_cons_succ, List.getD_cons_zero] <;> rfl)) (fun w' hw' => hw'.2) Try.underlying22 (by rfl) ?_
          (simp only [Act.put, List.setIfInBounds_toArray, List.set_cons_zero, List.set_cons_succ])
          (first | (refine plan_move _ _ (by rfl) (by rfl) (.inl (by rfl)) (by first | (with_reducible exact Mem.ev_const _ _) | (with_reducible exact Mem.ev_zero _ _ _) | (with_reducible (apply Eq.trans (Mem.ev_tmp _ _ _)); simp only [List.getD_cons_succ, List.getD_cons_zero] <;> rfl)) ?_) | (refine plan_move _ _ (by rfl) (by rfl) (.inr (by rfl)) (by first | (with_reducible exact Mem.ev_const _ _) | (with_reducible exact Mem.ev_zero _ _ _) | (with_reducible (apply Eq.trans (Mem.ev_tmp _ _ _)); simp only [List.getD_cons_succ, List.getD_cons_zero] <;> rfl)) ?_) | (refine plan_pick_t _ _ _ _ (by rfl) (by rfl) (by rfl) (by first | (with_reducible exact Mem.ev_const _ _) | (with_reducible exact Mem.ev_zero _ _ _) | (with_reducible (apply Eq.trans (Mem.ev_tmp _ _ _)); simp only [List.getD_cons_succ, List.getD_cons_zero] <;> rfl)) (by first | (with_reducible exact Mem.ev_const _ _) | (with_reducible exact Mem.ev_zero _ _ _) | (with_reducible (apply Eq.trans (Mem.ev_tmp _ _ _)); simp only [List.getD_cons_succ, List.getD_cons_zero] <;> rfl)) ?_) | (refine plan_pick_f _ _ _ _ (by rfl) (by rfl) (by rfl) (by first | (with_reducible exact Mem.ev_const _ _) | (with_reducible exact Mem.ev_zero _ _ _) | (with_reducible (apply Eq.trans (Mem.ev_tmp _ _ _)); simp only [List.getD_cons_succ, List.getD_cons_zero] <;> rfl)) (by first | (with_reducible exact Mem.ev_const _ _) | (with_reducible exact Mem.ev_zero _ _ _) | (with_reducible (apply Eq.trans (Mem.ev_tmp _ _ _)); simp only [List.getD_cons_succ, List.getD_cons_zero] <;> rfl)) ?_))
          (simp only [Act.put, List.setIfInBounds_toArray, List.set_cons_zero, List.set_cons_succ])
          refine plan_build _ _ #[(0, .int .u32 now), (1, .int .i64 b)] (.agg (euC (now, b))) (by rfl) (by rfl) (by rfl) (by simp only [List.map_toArray, List.map_cons, List.map_nil, Mem.ev_tmp, List.getD_cons_succ, List.getD_cons_zero]) (fun w' => buildUR now b w') ?_
          (simp only [Act.put, List.setIfInBounds_toArray, List.set_cons_zero, List.set_cons_succ])
          have hdr : Below wr.heap.size wr wr.drew := (Below.refl _ _).drew
          have DR := Lib.hid hdr
          clear hdr
          refine plan_two ?_ ?_
          · refine plan_sole_cell 26 _ _ (.slice a n cap) _ (by rfl) (by rfl) (by rfl) (by first | (with_reducible exact Mem.ev_const _ _) | (with_reducible exact Mem.ev_zero _ _ _) | (with_reducible (apply Eq.trans (Mem.ev_tmp _ _ _)); simp only [List.getD_cons_succ, List.getD_cons_zero] <;> rfl)) (by first | exact c2 | exact (DR.out.cell (p := ⟨g, 2, none⟩) ROW.out.lt).trans c2) Try.underlying26 (by rfl) (sm_below ROW.out DR.out) ?_
            (simp only [Act.put, List.setIfInBounds_toArray, List.set_cons_zero, List.set_cons_succ])
            refine plan_two ?_ ?_
            · refine plan_append_app _ _ 26 (by rfl) (by rfl) (by rfl) (.slice a n cap) 0 n 2 (euCs l) (.agg #[.int .u32 0, .int .i64 0]) 16 elemUR (by rfl) (by decide) (by first | (with_reducible exact Mem.ev_const _ _) | (with_reducible exact Mem.ev_zero _ _ _) | (with_reducible (apply Eq.trans (Mem.ev_tmp _ _ _)); simp only [List.getD_cons_succ, List.getD_cons_zero] <;> rfl)) (ownsRow_nil0 _ wr.heap.size _ _) (by first | (with_reducible exact Mem.ev_const _ _) | (with_reducible exact Mem.ev_zero _ _ _) | (with_reducible (apply Eq.trans (Mem.ev_tmp _ _ _)); simp only [List.getD_cons_succ, List.getD_cons_zero] <;> rfl)) (SL.out.below DR.out).rd (euCs_one l) (by omega) (by omega) DR.out.size ?_
              intro v5 w5 ho5 ha5 hb5
              obtain ⟨a5, c5, rfl⟩ := rows_hd ho5
              have B5 : Hid (Below wr.heap.size wr w5) := Lib.hid (DR.out.trans hb5)
              have O5 := Lib.hid ho5
              clear ho5 ha5 hb5
              refine ⟨sm_below ROW.out B5.out, ?_⟩
              (simp only [Act.put, List.setIfInBounds_toArray, List.set_cons_zero, List.set_cons_succ])
              refine plan_slice 26 44 1 _ (euC (now, b)) (by rfl) (by rfl) (by rfl) Try.underlying26 (by kernel_rfl) (sm_below ROW.out (B5.out.alloc B5.out.size _)) ?_
              have B12 := Lib.hid (B5.out.alloc B5.out.size (.cells (euC (now, b)) 44))
              have O12 := Lib.hid (ownsRow_below O5.out ((Below.refl _ _).alloc (Nat.le_refl _) (.cells (euC (now, b)) 44)))
              (simp only [Act.put, List.setIfInBounds_toArray, List.set_cons_zero, List.set_cons_succ])
              refine plan_append_app _ _ 26 (by rfl) (by rfl) (by rfl) (.slice (some ⟨w5.heap.size, 0, none⟩) 1 1) (0 + n) 1 2 [.int .u32 now, .int .i64 b] (.agg #[.int .u32 0, .int .i64 0]) 16 elemUR (by rfl) (by decide) (by first | (with_reducible exact Mem.ev_const _ _) | (with_reducible exact Mem.ev_zero _ _ _) | (with_reducible (apply Eq.trans (Mem.ev_tmp _ _ _)); simp only [List.getD_cons_succ, List.getD_cons_zero] <;> rfl)) O12.out (by first | (with_reducible exact Mem.ev_const _ _) | (with_reducible exact Mem.ev_zero _ _ _) | (with_reducible (apply Eq.trans (Mem.ev_tmp _ _ _)); simp only [List.getD_cons_succ, List.getD_cons_zero] <;> rfl)) (by exact rdR_new (e := 44) (C := euC (now, b))) (by simp [Value.oneCell']) (by omega) (by omega) B12.out.size ?_
              intro v6 w6 ho6 ha6 hb6
              obtain ⟨a6, c6, rfl⟩ := rows_hd ho6
              have B6 : Hid (Below wr.heap.size wr w6) := Lib.hid (B12.out.trans hb6)
              have O6 := Lib.hid ho6
              clear ho6 ha6 hb6
              refine ⟨sm_below ROW.out B6.out, ?_⟩
              (simp only [Act.put, List.setIfInBounds_toArray, List.set_cons_zero, List.set_cons_succ])
              refine plan_nilcheck _ ⟨g, 0, none⟩ (by rfl) (by rfl) (by rfl) (by first | (with_reducible exact Mem.ev_const _ _) | (with_reducible exact Mem.ev_zero _ _ _) | (with_reducible (apply Eq.trans (Mem.ev_tmp _ _ _)); simp only [List.getD_cons_succ, List.getD_cons_zero] <;> rfl)) ?_
              (simp only [Act.put, List.setIfInBounds_toArray, List.set_cons_zero, List.set_cons_succ])
              refine plan_field 28 _ 2 g 0 ⟨g, 2, none⟩ (by rfl) (by rfl) (by rfl) (by first | (with_reducible exact Mem.ev_const _ _) | (with_reducible exact Mem.ev_zero _ _ _) | (with_reducible (apply Eq.trans (Mem.ev_tmp _ _ _)); simp only [List.getD_cons_succ, List.getD_cons_zero] <;> rfl)) (fun wx => by go_simp) ?_
              (simp only [Act.put, List.setIfInBounds_toArray, List.set_cons_zero, List.set_cons_succ])
              refine plan_store_one 26 _ _ g 2 (.slice a6 (0 + n + 1) c6) _ 28 (by rfl) (by rfl) (by rfl) (by rfl) (by first | (with_reducible exact Mem.ev_const _ _) | (with_reducible exact Mem.ev_zero _ _ _) | (with_reducible (apply Eq.trans (Mem.ev_tmp _ _ _)); simp only [List.getD_cons_succ, List.getD_cons_zero] <;> rfl)) (by first | (with_reducible exact Mem.ev_const _ _) | (with_reducible exact Mem.ev_zero _ _ _) | (with_reducible (apply Eq.trans (Mem.ev_tmp _ _ _)); simp only [List.getD_cons_succ, List.getD_cons_zero] <;> rfl)) (by rfl) infoUS (ROW.out.below B6.out ROW.out.lt) (by simp [rmC]) (sm_set ROW.out B6.out) ?_
              refine plan_nil ?_
              have hE := rmt_end (a := a6) (cap := c6) H.out HB.out B6.out (by exact O6.out) (by have := HN.out; omega) rfl
              have HE := Lib.hid hE
              clear hE
              go_wp2_with fail
              go_ret
              have h1 := G1.out; have h2 : ¬ b < 0 := (by have := G2.out; omega); have h3 := NN.out
              exact ⟨by simp [Mtr.use, h1, h2, h3], HE.out.2, _, by simpa [Mtr.use, h1, h2, h3] using HE.out.1⟩
            · refine plan_slice 26 44 1 _ (euC (now, b)) (by rfl) (by rfl) (by rfl) Try.underlying26 (by kernel_rfl) (sm_below ROW.out (DR.out.alloc DR.out.size _)) ?_
              have B12 := Lib.hid (DR.out.alloc DR.out.size (.cells (euC (now, b)) 44))
              have L12 := Lib.hid (at_new wr.drew (euC (now, b)) 44)
              (simp only [Act.put, List.setIfInBounds_toArray, List.set_cons_zero, List.set_cons_succ])
              refine plan_append_app _ _ 26 (by rfl) (by rfl) (by rfl) (.slice a n cap) 0 n 2 (euCs l) (.agg #[.int .u32 0, .int .i64 0]) 16 elemUR (by rfl) (by decide) (by first | (with_reducible exact Mem.ev_const _ _) | (with_reducible exact Mem.ev_zero _ _ _) | (with_reducible (apply Eq.trans (Mem.ev_tmp _ _ _)); simp only [List.getD_cons_succ, List.getD_cons_zero] <;> rfl)) (ownsRow_nil0 _ wr.heap.size _ _) (by first | (with_reducible exact Mem.ev_const _ _) | (with_reducible exact Mem.ev_zero _ _ _) | (with_reducible (apply Eq.trans (Mem.ev_tmp _ _ _)); simp only [List.getD_cons_succ, List.getD_cons_zero] <;> rfl)) (SL.out.below B12.out).rd (euCs_one l) (by omega) (by omega) B12.out.size ?_
              intro v5 w5 ho5 ha5 hb5
              obtain ⟨a5, c5, rfl⟩ := rows_hd ho5
              have B5 : Hid (Below wr.heap.size wr w5) := Lib.hid (B12.out.trans hb5)
              have O5 := Lib.hid ho5
              have L5 : Hid (At w5 _ (euC (now, b)) 44) := Lib.hid (at_appd L12.out ha5 (by simp [Value.ownBlock]))
              clear ho5 ha5 hb5
              refine ⟨sm_below ROW.out B5.out, ?_⟩
              (simp only [Act.put, List.setIfInBounds_toArray, List.set_cons_zero, List.set_cons_succ])
              refine plan_append_app _ _ 26 (by rfl) (by rfl) (by rfl) (.slice (some ⟨wr.drew.heap.size, 0, none⟩) 1 1) (0 + n) 1 2 [.int .u32 now, .int .i64 b] (.agg #[.int .u32 0, .int .i64 0]) 16 elemUR (by rfl) (by decide) (by first | (with_reducible exact Mem.ev_const _ _) | (with_reducible exact Mem.ev_zero _ _ _) | (with_reducible (apply Eq.trans (Mem.ev_tmp _ _ _)); simp only [List.getD_cons_succ, List.getD_cons_zero] <;> rfl)) O5.out (by first | (with_reducible exact Mem.ev_const _ _) | (with_reducible exact Mem.ev_zero _ _ _) | (with_reducible (apply Eq.trans (Mem.ev_tmp _ _ _)); simp only [List.getD_cons_succ, List.getD_cons_zero] <;> rfl)) (by exact rdR_at L5.out) (by simp [Value.oneCell']) (by omega) (by omega) B5.out.size ?_
              intro v6 w6 ho6 ha6 hb6
              obtain ⟨a6, c6, rfl⟩ := rows_hd ho6
              have B6 : Hid (Below wr.heap.size wr w6) := Lib.hid (B5.out.trans hb6)
              have O6 := Lib.hid ho6
              clear ho6 ha6 hb6
              refine ⟨sm_below ROW.out B6.out, ?_⟩
              (simp only [Act.put, List.setIfInBounds_toArray, List.set_cons_zero, List.set_cons_succ])
              refine plan_nilcheck _ ⟨g, 0, none⟩ (by rfl) (by rfl) (by rfl) (by first | (with_reducible exact Mem.ev_const _ _) | (with_reducible exact Mem.ev_zero _ _ _) | (with_reducible (apply Eq.trans (Mem.ev_tmp _ _ _)); simp only [List.getD_cons_succ, List.getD_cons_zero] <;> rfl)) ?_
              (simp only [Act.put, List.setIfInBounds_toArray, List.set_cons_zero, List.set_cons_succ])
              refine plan_field 28 _ 2 g 0 ⟨g, 2, none⟩ (by rfl) (by rfl) (by rfl) (by first | (with_reducible exact Mem.ev_const _ _) | (with_reducible exact Mem.ev_zero _ _ _) | (with_reducible (apply Eq.trans (Mem.ev_tmp _ _ _)); simp only [List.getD_cons_succ, List.getD_cons_zero] <;> rfl)) (fun wx => by go_simp) ?_
              (simp only [Act.put, List.setIfInBounds_toArray, List.set_cons_zero, List.set_cons_succ])
              refine plan_store_one 26 _ _ g 2 (.slice a6 (0 + n + 1) c6) _ 28 (by rfl) (by rfl) (by rfl) (by rfl) (by first | (with_reducible exact Mem.ev_const _ _) | (with_reducible exact Mem.ev_zero _ _ _) | (with_reducible (apply Eq.trans (Mem.ev_tmp _ _ _)); simp only [List.getD_cons_succ, List.getD_cons_zero] <;> rfl)) (by first | (with_reducible exact Mem.ev_const _ _) | (with_reducible exact Mem.ev_zero _ _ _) | (with_reducible (apply Eq.trans (Mem.ev_tmp _ _ _)); simp only [List.getD_cons_succ, List.getD_cons_zero] <;> rfl)) (by rfl) infoUS (ROW.out.below B6.out ROW.out.lt) (by simp [rmC]) (sm_set ROW.out B6.out) ?_
              refine plan_nil ?_
              have hE := rmt_end (a := a6) (cap := c6) H.out HB.out B6.out (by exact O6.out) (by have := HN.out; omega) rfl
              have HE := Lib.hid hE
              clear hE
              go_wp2_with fail
              go_ret
              have h1 := G1.out; have h2 : ¬ b < 0 := (by have := G2.out; omega); have h3 := NN.out
              exact ⟨by simp [Mtr.use, h1, h2, h3], HE.out.2, _, by simpa [Mtr.use, h1, h2, h3] using HE.out.1⟩
          · refine plan_slice 26 44 1 _ (euC (now, b)) (by rfl) (by rfl) (by rfl) Try.underlying26 (by kernel_rfl) (sm_below ROW.out (DR.out.alloc DR.out.size _)) ?_
            have B12 := Lib.hid (DR.out.alloc DR.out.size (.cells (euC (now, b)) 44))
            have L12 := Lib.hid (at_new wr.drew (euC (now, b)) 44)
            (simp only [Act.put, List.setIfInBounds_toArray, List.set_cons_zero, List.set_cons_succ])
            refine plan_sole_cell 26 _ _ (.slice a n cap) _ (by rfl) (by rfl) (by rfl) (by first | (with_reducible exact Mem.ev_const _ _) | (with_reducible exact Mem.ev_zero _ _ _) | (with_reducible (apply Eq.trans (Mem.ev_tmp _ _ _)); simp only [List.getD_cons_succ, List.getD_cons_zero] <;> rfl)) (by first | exact c2 | exact (B12.out.cell (p := ⟨g, 2, none⟩) ROW.out.lt).trans c2) Try.underlying26 (by rfl) (sm_below ROW.out B12.out) ?_
            (simp only [Act.put, List.setIfInBounds_toArray, List.set_cons_zero, List.set_cons_succ])
            refine plan_append_app _ _ 26 (by rfl) (by rfl) (by rfl) (.slice a n cap) 0 n 2 (euCs l) (.agg #[.int .u32 0, .int .i64 0]) 16 elemUR (by rfl) (by decide) (by first | (with_reducible exact Mem.ev_const _ _) | (with_reducible exact Mem.ev_zero _ _ _) | (with_reducible (apply Eq.trans (Mem.ev_tmp _ _ _)); simp only [List.getD_cons_succ, List.getD_cons_zero] <;> rfl)) (ownsRow_nil0 _ wr.heap.size _ _) (by first | (with_reducible exact Mem.ev_const _ _) | (with_reducible exact Mem.ev_zero _ _ _) | (with_reducible (apply Eq.trans (Mem.ev_tmp _ _ _)); simp only [List.getD_cons_succ, List.getD_cons_zero] <;> rfl)) (SL.out.below B12.out).rd (euCs_one l) (by omega) (by omega) B12.out.size ?_
            intro v5 w5 ho5 ha5 hb5
            obtain ⟨a5, c5, rfl⟩ := rows_hd ho5
            have B5 : Hid (Below wr.heap.size wr w5) := Lib.hid (B12.out.trans hb5)
            have O5 := Lib.hid ho5
            have L5 : Hid (At w5 _ (euC (now, b)) 44) := Lib.hid (at_appd L12.out ha5 (by simp [Value.ownBlock]))
            clear ho5 ha5 hb5
            refine ⟨sm_below ROW.out B5.out, ?_⟩
            (simp only [Act.put, List.setIfInBounds_toArray, List.set_cons_zero, List.set_cons_succ])
            refine plan_append_app _ _ 26 (by rfl) (by rfl) (by rfl) (.slice (some ⟨wr.drew.heap.size, 0, none⟩) 1 1) (0 + n) 1 2 [.int .u32 now, .int .i64 b] (.agg #[.int .u32 0, .int .i64 0]) 16 elemUR (by rfl) (by decide) (by first | (with_reducible exact Mem.ev_const _ _) | (with_reducible exact Mem.ev_zero _ _ _) | (with_reducible (apply Eq.trans (Mem.ev_tmp _ _ _)); simp only [List.getD_cons_succ, List.getD_cons_zero] <;> rfl)) O5.out (by first | (with_reducible exact Mem.ev_const _ _) | (with_reducible exact Mem.ev_zero _ _ _) | (with_reducible (apply Eq.trans (Mem.ev_tmp _ _ _)); simp only [List.getD_cons_succ, List.getD_cons_zero] <;> rfl)) (by exact rdR_at L5.out) (by simp [Value.oneCell']) (by omega) (by omega) B5.out.size ?_
            intro v6 w6 ho6 ha6 hb6
            obtain ⟨a6, c6, rfl⟩ := rows_hd ho6
            have B6 : Hid (Below wr.heap.size wr w6) := Lib.hid (B5.out.trans hb6)
            have O6 := Lib.hid ho6
            clear ho6 ha6 hb6
            refine ⟨sm_below ROW.out B6.out, ?_⟩
            (simp only [Act.put, List.setIfInBounds_toArray, List.set_cons_zero, List.set_cons_succ])
            refine plan_nilcheck _ ⟨g, 0, none⟩ (by rfl) (by rfl) (by rfl) (by first | (with_reducible exact Mem.ev_const _ _) | (with_reducible exact Mem.ev_zero _ _ _) | (with_reducible (apply Eq.trans (Mem.ev_tmp _ _ _)); simp only [List.getD_cons_succ, List.getD_cons_zero] <;> rfl)) ?_
            (simp only [Act.put, List.setIfInBounds_toArray, List.set_cons_zero, List.set_cons_succ])
            refine plan_field 28 _ 2 g 0 ⟨g, 2, none⟩ (by rfl) (by rfl) (by rfl) (by first | (with_reducible exact Mem.ev_const _ _) | (with_reducible exact Mem.ev_zero _ _ _) | (with_reducible (apply Eq.trans (Mem.ev_tmp _ _ _)); simp only [List.getD_cons_succ, List.getD_cons_zero] <;> rfl)) (fun wx => by go_simp) ?_
            (simp only [Act.put, List.setIfInBounds_toArray, List.set_cons_zero, List.set_cons_succ])
            refine plan_store_one 26 _ _ g 2 (.slice a6 (0 + n + 1) c6) _ 28 (by rfl) (by rfl) (by rfl) (by rfl) (by first | (with_reducible exact Mem.ev_const _ _) | (with_reducible exact Mem.ev_zero _ _ _) | (with_reducible (apply Eq.trans (Mem.ev_tmp _ _ _)); simp only [List.getD_cons_succ, List.getD_cons_zero] <;> rfl)) (by first | (with_reducible exact Mem.ev_const _ _) | (with_reducible exact Mem.ev_zero _ _ _) | (with_reducible (apply Eq.trans (Mem.ev_tmp _ _ _)); simp only [List.getD_cons_succ, List.getD_cons_zero] <;> rfl)) (by rfl) infoUS (ROW.out.below B6.out ROW.out.lt) (by simp [rmC]) (sm_set ROW.out B6.out) ?_
            refine plan_nil ?_
            have hE := rmt_end (a := a6) (cap := c6) H.out HB.out B6.out (by exact O6.out) (by have := HN.out; omega) rfl
            have HE := Lib.hid hE
            clear hE
            go_wp2_with fail
            go_ret
            have h1 := G1.out; have h2 : ¬ b < 0 := (by have := G2.out; omega); have h3 := NN.out
            exact ⟨by simp [Mtr.use, h1, h2, h3], HE.out.2, _, by simpa [Mtr.use, h1, h2, h3] using HE.out.1⟩
end Sha
end Go.Proofs.Ytmpibofkihfiiaa
