/- The program's isBlock, isPlace, turn, Seal; Digest, where no book is (written by sealplow.py). The program's book: its account in memory; Digest (written by sealpbook.py). The program's Digest with a book or none; Hide. The program's Open. The program's Lay of a reference. The program's Parse of a reference. A map whose keys are digests (arrays of 32 bytes) and whose values are numbers: made, looked up, stored into. The program's Clash. The program's book: Texts, Len. -/
import Derived.Test.YtmfgimkopddcgaaDoorBG
import Derived.Test.YtmfgimkopddcgaaDoorBD
import Derived.Test.YtmfgimkopddcgaaDoorBB
import Derived.Test.YtmfgimkopddcgaaDoorBA
import Derived.Test.YtmfgimkopddcgaaDoorBF
import Derived.Maps.OwnSet
import Derived.WideKeyRuns
namespace Go.Proofs.YtmfgimkopddcgaaDoor
namespace Sha
open Go.RowKit Mem
theorem at_slB {F : Foot} {w : World} {g n : Nat} {l : List (BitVec 8)} {t : TypeId} (h : At w g (u8s l).toArray t) (hn : l.length = n) (hF : F g) : SlB F w (.slice (some ⟨g, 0, none⟩) n n) l := by
  subst hn
  refine ⟨by simp [u8s_length], some ⟨g, 0, none⟩, l.length, rfl, Nat.le_refl _, fun _ => ⟨g, 0, rfl, hF, h.lt, fun j u hu => ?_⟩⟩
  rw [h.cell, Nat.zero_add, List.getElem?_toArray]; exact hu
theorem sl_slB {w : World} {v : Value} {l : List (BitVec 8)} (h : Sl w v l) : SlB (fun _ => True) w v l := by
  obtain ⟨a, cap, e, hc, hr⟩ := h
  refine ⟨by simp [u8s_length], a, cap, e, hc, fun hne => ?_⟩
  obtain ⟨bb, oo, ea, hlt, hcell⟩ := hr (fun h0 => hne (by rw [h0]; rfl))
  refine ⟨bb, oo, ea, trivial, hlt, fun j u hu => ?_⟩
  have hj : j < l.length := by
    have := (List.getElem?_eq_some_iff.1 hu).1
    rwa [u8s_length] at this
  rw [hcell j hj, ← u8s_get l j hj, hu]
/-- It returns bytes in a block of its own. -/
def SBEnd (w : World) (L : List (BitVec 8)) (e : Ending) (w' : World) : Prop := ∃ v, e = .returned v ∧ SlB (fun k => w.heap.size ≤ k) w' v L ∧ Below w.heap.size w w'
theorem send_sb {w w' : World} {L : List (BitVec 8)} {e : Ending} (h : SEnd w L e w') : SBEnd w L e w' := by
  obtain ⟨g, rfl, ha, hg, hb⟩ := h
  exact ⟨_, rfl, at_slB ha rfl hg, hb⟩
/-- It returns bytes in a block of its own, and a number. -/
def SealBEnd (w : World) (l : List (BitVec 8)) (n : Int) (e : Ending) (w' : World) : Prop := ∃ v, e = .returned (.tuple #[v, .int .i64 n]) ∧ SlB (fun k => w.heap.size ≤ k) w' v l ∧ Below w.heap.size w w'
theorem sealB_r {w w' : World} {l : List (BitVec 8)} {n : Int} {e : Ending} (h : SealBEnd w l n e w') : SealEnd w l n e w' := by
  obtain ⟨v, rfl, hs, hb⟩ := h
  exact ⟨v, rfl, hs.sl, hb⟩
set_option maxRecDepth 100000 in
set_option maxHeartbeats 1000000 in
theorem pisBlock_any (block : Int) (l : List (BitVec 8)) (v : Value) (w : World) (hv : Sl w v l) : Calls Tryd.prog 28 #[.int .i64 block, v] w fun e w' => e = .returned (.bool (!(sealBad block l))) ∧ Below w.heap.size w w' := by
  obtain ⟨a0, c0, rfl⟩ := sl_inv hv
  by_cases h2 : block < 0
  · have e0 : sealBad block l = true := by simp [sealBad, h2]
    rw [e0]
    obtain ⟨n, hn⟩ : ∃ n, n = l.length := ⟨_, rfl⟩
    rw [← hn]
    have h2' : ¬ (0 : Int) ≤ block := by omega
    clear hv e0 hn
    go_enter Tryd.func28, Tryd.ntmps28
    go_wp2_with fail
    go_ret
    exact ⟨rfl, Below.refl _ _⟩
  · have h2' : (0 : Int) ≤ block := by omega
    by_cases h1 : l.length = 256
    · have e0 : sealBad block l = false := by simp [sealBad, h1, h2]
      rw [e0, h1]
      clear hv e0 h1
      go_enter Tryd.func28, Tryd.ntmps28
      go_wp2_with fail
      go_ret
      exact ⟨rfl, Below.refl _ _⟩
    · have e0 : sealBad block l = true := by simp [sealBad, h1]
      rw [e0]
      obtain ⟨n, hn⟩ : ∃ n, n = l.length := ⟨_, rfl⟩
      rw [← hn] at h1 ⊢
      have h1' : ((n : Int) == 256) = false := by
        have : ¬ (n : Int) = 256 := by omega
        simpa using this
      clear hv e0 hn
      go_enter Tryd.func28, Tryd.ntmps28
      go_wp2_with fail
      go_ret
      exact ⟨rfl, Below.refl _ _⟩
set_option maxRecDepth 100000 in
set_option maxHeartbeats 1000000 in
theorem pisPlace_any (place : Int) (w : World) : Calls Tryd.prog 32 #[.int .i64 place] w fun e w' => e = .returned (.bool (!(decide (place < 0 ∨ 1 < place)))) ∧ Below w.heap.size w w' := by
  by_cases h0 : place < 0
  · have e0 : decide (place < 0 ∨ 1 < place) = true := by simp [h0]
    rw [e0]
    have h0' : ¬ (0 : Int) ≤ place := by omega
    clear e0
    go_enter Tryd.func32, Tryd.ntmps32
    go_wp2_with fail
    go_ret
    exact ⟨rfl, Below.refl _ _⟩
  · have h0' : (0 : Int) ≤ place := by omega
    by_cases h1 : 1 < place
    · have e0 : decide (place < 0 ∨ 1 < place) = true := by simp [h1]
      rw [e0]
      have h1' : ¬ place ≤ 1 := by omega
      clear e0
      go_enter Tryd.func32, Tryd.ntmps32
      go_wp2_with fail
      go_ret
      exact ⟨rfl, Below.refl _ _⟩
    · have e0 : decide (place < 0 ∨ 1 < place) = false := by simp [h0, h1]
      rw [e0]
      have h1' : place ≤ 1 := by omega
      clear e0
      go_enter Tryd.func32, Tryd.ntmps32
      go_wp2_with fail
      go_ret
      exact ⟨rfl, Below.refl _ _⟩
set_option maxRecDepth 100000 in
set_option maxHeartbeats 4000000 in
theorem pturn_any (key : List (BitVec 8)) (lk : key.length = 32) (ep : BitVec 32) (block : Int) (h0 : 0 ≤ block) (hbk : block ≤ 9223372036854775807) (page : List (BitVec 8)) (v : Value) (w : World) (hv : Sl w v page) (hp : page.length ≤ 1048576) (hT : CTabs w) :
    Calls Tryd.prog 29 #[.agg (u8s key).toArray, .int .u32 (V ep), .int .i64 block, v] w (SBEnd w (sealL key ep block page)) := by
  obtain ⟨bb, hbb⟩ : ∃ bb, bb = BitVec.ofNat 64 block.toNat := ⟨_, rfl⟩
  have cv := fun wx => conv_i64u block bb hbb h0 hbk wx
  have non := fun wx => nonce_any ep bb wx
  have rt : ∀ wx, Sl wx v page → CTabs wx → Calls Tryd.prog 44 #[.agg (u8s key).toArray, .agg (ncOf ep bb), .int .u32 0, v] wx (SBEnd wx (sealL key ep block page)) := fun wx h hL => by
    have k := turned_any key (cnonce ep bb) 0 page _ lk (cnonce_length _ _) hp wx h hL
    unfold sealL
    rw [← hbb]
    exact k.mono fun _ _ h => send_sb h
  have ha : Below w.heap.size w (w.alloc (.cells (u8s key).toArray 22)) := (Below.refl _ _).alloc (Nat.le_refl _) _
  obtain ⟨C, hC⟩ : ∃ C, C = (u8s key).toArray := ⟨_, rfl⟩
  have cs : C.size = 32 := by rw [hC]; simp [u8s_length, lk]
  rw [← hC] at rt ha ⊢
  have an := at_new w C 22
  obtain ⟨L, hL⟩ : ∃ L, L = sealL key ep block page := ⟨_, rfl⟩
  rw [← hL] at rt ⊢
  have CV := Lib.hid cv; have NON := Lib.hid non; have RT := Lib.hid rt; have CS := Lib.hid cs; have A1 := Lib.hid an; have BA := Lib.hid ha; have S1 := Lib.hid (hv.below ha); have T1 := Lib.hid (hT.below ha (Nat.le_refl _))
  clear cv non rt cs an ha hv hC hL hbb lk hp hT h0 hbk
  obtain ⟨nc, hnc⟩ : ∃ nc, nc = ncOf ep bb := ⟨_, rfl⟩
  rw [← hnc] at NON RT
  clear hnc
  go_enter Tryd.func29, Tryd.ntmps29
  go_wp2_with fail
  obtain ⟨b1, hb1⟩ : ∃ b1, b1 = w.heap.size := ⟨_, rfl⟩
  rw [← hb1] at A1 ⊢
  clear hb1
  generalize w.alloc (.cells C 22) = w1 at *
  have B1 : Hid (Below w1.heap.size w1 w1.drew) := Lib.hid (Below.refl _ _).drew
  refine wp_region_plan_in (fun x => Below w1.heap.size w1 x) (.take 0 (.take 1 (.take 2 (.take 3 (.take 5 (.sole 4 (.sole 6 (.take 7 .done)))))))) (by kernel_rfl) (by kernel_rfl) (by kernel_rfl) B1.out ?_
  refine plan_row 22 _ b1 _ C 22 (by rfl) (by rfl) (by rfl) (by first | (with_reducible exact Mem.ev_const _ _) | (with_reducible exact Mem.ev_zero _ _ _) | (with_reducible (apply Eq.trans (Mem.ev_tmp _ _ _)); simp only [List.getD_cons_succ, List.getD_cons_zero] <;> rfl)) (fun w' hw' => A1.out.below hw' A1.out.lt) Tryd.underlying22 (by rfl) (by rw [CS.out]; exact infoDg) ?_
  (simp only [Act.put, List.setIfInBounds_toArray, List.set_cons_zero, List.set_cons_succ])
  (first | (refine plan_move _ _ (by rfl) (by rfl) (.inl (by rfl)) (by first | (with_reducible exact Mem.ev_const _ _) | (with_reducible exact Mem.ev_zero _ _ _) | (with_reducible (apply Eq.trans (Mem.ev_tmp _ _ _)); simp only [List.getD_cons_succ, List.getD_cons_zero] <;> rfl)) ?_) | (refine plan_move _ _ (by rfl) (by rfl) (.inr (by rfl)) (by first | (with_reducible exact Mem.ev_const _ _) | (with_reducible exact Mem.ev_zero _ _ _) | (with_reducible (apply Eq.trans (Mem.ev_tmp _ _ _)); simp only [List.getD_cons_succ, List.getD_cons_zero] <;> rfl)) ?_) | (refine plan_pick_t _ _ _ _ (by rfl) (by rfl) (by rfl) (by first | (with_reducible exact Mem.ev_const _ _) | (with_reducible exact Mem.ev_zero _ _ _) | (with_reducible (apply Eq.trans (Mem.ev_tmp _ _ _)); simp only [List.getD_cons_succ, List.getD_cons_zero] <;> rfl)) (by first | (with_reducible exact Mem.ev_const _ _) | (with_reducible exact Mem.ev_zero _ _ _) | (with_reducible (apply Eq.trans (Mem.ev_tmp _ _ _)); simp only [List.getD_cons_succ, List.getD_cons_zero] <;> rfl)) ?_) | (refine plan_pick_f _ _ _ _ (by rfl) (by rfl) (by rfl) (by first | (with_reducible exact Mem.ev_const _ _) | (with_reducible exact Mem.ev_zero _ _ _) | (with_reducible (apply Eq.trans (Mem.ev_tmp _ _ _)); simp only [List.getD_cons_succ, List.getD_cons_zero] <;> rfl)) (by first | (with_reducible exact Mem.ev_const _ _) | (with_reducible exact Mem.ev_zero _ _ _) | (with_reducible (apply Eq.trans (Mem.ev_tmp _ _ _)); simp only [List.getD_cons_succ, List.getD_cons_zero] <;> rfl)) ?_))
  (simp only [Act.put, List.setIfInBounds_toArray, List.set_cons_zero, List.set_cons_succ])
  (first | (refine plan_move _ _ (by rfl) (by rfl) (.inl (by rfl)) (by first | (with_reducible exact Mem.ev_const _ _) | (with_reducible exact Mem.ev_zero _ _ _) | (with_reducible (apply Eq.trans (Mem.ev_tmp _ _ _)); simp only [List.getD_cons_succ, List.getD_cons_zero] <;> rfl)) ?_) | (refine plan_move _ _ (by rfl) (by rfl) (.inr (by rfl)) (by first | (with_reducible exact Mem.ev_const _ _) | (with_reducible exact Mem.ev_zero _ _ _) | (with_reducible (apply Eq.trans (Mem.ev_tmp _ _ _)); simp only [List.getD_cons_succ, List.getD_cons_zero] <;> rfl)) ?_) | (refine plan_pick_t _ _ _ _ (by rfl) (by rfl) (by rfl) (by first | (with_reducible exact Mem.ev_const _ _) | (with_reducible exact Mem.ev_zero _ _ _) | (with_reducible (apply Eq.trans (Mem.ev_tmp _ _ _)); simp only [List.getD_cons_succ, List.getD_cons_zero] <;> rfl)) (by first | (with_reducible exact Mem.ev_const _ _) | (with_reducible exact Mem.ev_zero _ _ _) | (with_reducible (apply Eq.trans (Mem.ev_tmp _ _ _)); simp only [List.getD_cons_succ, List.getD_cons_zero] <;> rfl)) ?_) | (refine plan_pick_f _ _ _ _ (by rfl) (by rfl) (by rfl) (by first | (with_reducible exact Mem.ev_const _ _) | (with_reducible exact Mem.ev_zero _ _ _) | (with_reducible (apply Eq.trans (Mem.ev_tmp _ _ _)); simp only [List.getD_cons_succ, List.getD_cons_zero] <;> rfl)) (by first | (with_reducible exact Mem.ev_const _ _) | (with_reducible exact Mem.ev_zero _ _ _) | (with_reducible (apply Eq.trans (Mem.ev_tmp _ _ _)); simp only [List.getD_cons_succ, List.getD_cons_zero] <;> rfl)) ?_))
  (simp only [Act.put, List.setIfInBounds_toArray, List.set_cons_zero, List.set_cons_succ])
  refine plan_conv 3 73 _ (.int .i64 block) (.int .u64 (bb.toNat : Int)) (by rfl) (by rfl) (by rfl) (by first | (with_reducible exact Mem.ev_const _ _) | (with_reducible exact Mem.ev_zero _ _ _) | (with_reducible (apply Eq.trans (Mem.ev_tmp _ _ _)); simp only [List.getD_cons_succ, List.getD_cons_zero] <;> rfl)) (fun wx => CV.out wx) ?_
  (simp only [Act.put, List.setIfInBounds_toArray, List.set_cons_zero, List.set_cons_succ])
  (first | (refine plan_move _ _ (by rfl) (by rfl) (.inl (by rfl)) (by first | (with_reducible exact Mem.ev_const _ _) | (with_reducible exact Mem.ev_zero _ _ _) | (with_reducible (apply Eq.trans (Mem.ev_tmp _ _ _)); simp only [List.getD_cons_succ, List.getD_cons_zero] <;> rfl)) ?_) | (refine plan_move _ _ (by rfl) (by rfl) (.inr (by rfl)) (by first | (with_reducible exact Mem.ev_const _ _) | (with_reducible exact Mem.ev_zero _ _ _) | (with_reducible (apply Eq.trans (Mem.ev_tmp _ _ _)); simp only [List.getD_cons_succ, List.getD_cons_zero] <;> rfl)) ?_) | (refine plan_pick_t _ _ _ _ (by rfl) (by rfl) (by rfl) (by first | (with_reducible exact Mem.ev_const _ _) | (with_reducible exact Mem.ev_zero _ _ _) | (with_reducible (apply Eq.trans (Mem.ev_tmp _ _ _)); simp only [List.getD_cons_succ, List.getD_cons_zero] <;> rfl)) (by first | (with_reducible exact Mem.ev_const _ _) | (with_reducible exact Mem.ev_zero _ _ _) | (with_reducible (apply Eq.trans (Mem.ev_tmp _ _ _)); simp only [List.getD_cons_succ, List.getD_cons_zero] <;> rfl)) ?_) | (refine plan_pick_f _ _ _ _ (by rfl) (by rfl) (by rfl) (by first | (with_reducible exact Mem.ev_const _ _) | (with_reducible exact Mem.ev_zero _ _ _) | (with_reducible (apply Eq.trans (Mem.ev_tmp _ _ _)); simp only [List.getD_cons_succ, List.getD_cons_zero] <;> rfl)) (by first | (with_reducible exact Mem.ev_const _ _) | (with_reducible exact Mem.ev_zero _ _ _) | (with_reducible (apply Eq.trans (Mem.ev_tmp _ _ _)); simp only [List.getD_cons_succ, List.getD_cons_zero] <;> rfl)) ?_))
  (simp only [Act.put, List.setIfInBounds_toArray, List.set_cons_zero, List.set_cons_succ])
  refine plan_call 45 _ _ _ (by kernel_rfl) (by rfl) (by rfl) (by rfl) (by first | exact Mem.ev_none _ | (simp only [List.map_toArray, List.map_cons, List.map_nil, Mem.ev_tmp, List.getD_cons_succ, List.getD_cons_zero] <;> rfl)) ?_
  refine (NON.out _).mono ?_
  rintro o2 w2 ⟨rfl, hb⟩
  have B2 : Hid (Below w1.heap.size w1 w2) := Lib.hid (B1.out.trans (hb.mono B1.out.size))
  clear hb
  refine ⟨_, rfl, B2.out, ?_⟩
  (simp only [Act.put, List.setIfInBounds_toArray, List.set_cons_zero, List.set_cons_succ])
  refine plan_call 44 _ _ _ (by kernel_rfl) (by rfl) (by rfl) (by rfl) (by first | exact Mem.ev_none _ | (simp only [List.map_toArray, List.map_cons, List.map_nil, Mem.ev_tmp, List.getD_cons_succ, List.getD_cons_zero] <;> rfl)) ?_
  refine (RT.out _ (S1.out.below B2.out) (T1.out.below B2.out (Nat.le_refl _))).mono ?_
  rintro o3 w3 ⟨v3, rfl, hs, hb⟩
  have B3 : Hid (Below w1.heap.size w1 w3) := Lib.hid (B2.out.trans (hb.mono B2.out.size))
  have S3 := Lib.hid hs
  clear hs hb
  refine ⟨_, rfl, B3.out, ?_⟩
  (simp only [Act.put, List.setIfInBounds_toArray, List.set_cons_zero, List.set_cons_succ])
  (first | (refine plan_move _ _ (by rfl) (by rfl) (.inl (by rfl)) (by first | (with_reducible exact Mem.ev_const _ _) | (with_reducible exact Mem.ev_zero _ _ _) | (with_reducible (apply Eq.trans (Mem.ev_tmp _ _ _)); simp only [List.getD_cons_succ, List.getD_cons_zero] <;> rfl)) ?_) | (refine plan_move _ _ (by rfl) (by rfl) (.inr (by rfl)) (by first | (with_reducible exact Mem.ev_const _ _) | (with_reducible exact Mem.ev_zero _ _ _) | (with_reducible (apply Eq.trans (Mem.ev_tmp _ _ _)); simp only [List.getD_cons_succ, List.getD_cons_zero] <;> rfl)) ?_) | (refine plan_pick_t _ _ _ _ (by rfl) (by rfl) (by rfl) (by first | (with_reducible exact Mem.ev_const _ _) | (with_reducible exact Mem.ev_zero _ _ _) | (with_reducible (apply Eq.trans (Mem.ev_tmp _ _ _)); simp only [List.getD_cons_succ, List.getD_cons_zero] <;> rfl)) (by first | (with_reducible exact Mem.ev_const _ _) | (with_reducible exact Mem.ev_zero _ _ _) | (with_reducible (apply Eq.trans (Mem.ev_tmp _ _ _)); simp only [List.getD_cons_succ, List.getD_cons_zero] <;> rfl)) ?_) | (refine plan_pick_f _ _ _ _ (by rfl) (by rfl) (by rfl) (by first | (with_reducible exact Mem.ev_const _ _) | (with_reducible exact Mem.ev_zero _ _ _) | (with_reducible (apply Eq.trans (Mem.ev_tmp _ _ _)); simp only [List.getD_cons_succ, List.getD_cons_zero] <;> rfl)) (by first | (with_reducible exact Mem.ev_const _ _) | (with_reducible exact Mem.ev_zero _ _ _) | (with_reducible (apply Eq.trans (Mem.ev_tmp _ _ _)); simp only [List.getD_cons_succ, List.getD_cons_zero] <;> rfl)) ?_))
  (simp only [Act.put, List.setIfInBounds_toArray, List.set_cons_zero, List.set_cons_succ])
  refine plan_nil ?_
  go_wp2_with fail
  go_ret
  exact ⟨_, rfl, S3.out.mono fun k hk _ => Nat.le_trans BA.out.size (Nat.le_trans B2.out.size hk), BA.out.trans (B3.out.mono BA.out.size)⟩
set_option maxRecDepth 100000 in
set_option maxHeartbeats 4000000 in
theorem pseal_any (key : List (BitVec 8)) (lk : key.length = 32) (ep : BitVec 32) (block : Int) (hbk : block ≤ 9223372036854775807) (page : List (BitVec 8)) (v : Value) (w : World) (hv : Sl w v page) (hp : page.length ≤ 1048576) (hT : CTabs w) :
    Calls Tryd.prog 11 #[.agg (u8s key).toArray, .int .u32 (V ep), .int .i64 block, v] w (SealBEnd w (sealR key ep block page).1 (sealR key ep block page).2) := by
  have ha : Below w.heap.size w (w.alloc (.cells (u8s key).toArray 22)) := (Below.refl _ _).alloc (Nat.le_refl _) _
  have ib := fun wx (h : Below w.heap.size w wx) => pisBlock_any block page v wx (hv.below h)
  have tn := fun (h0 : 0 ≤ block) wx (h : Below w.heap.size w wx) => pturn_any key lk ep block h0 hbk page v wx (hv.below h) hp (hT.below h (Nat.le_refl _))
  obtain ⟨C, hC⟩ : ∃ C, C = (u8s key).toArray := ⟨_, rfl⟩
  have cs : C.size = 32 := by rw [hC]; simp [u8s_length, lk]
  rw [← hC] at tn ha ⊢
  have an := at_new w C 22
  have IB := Lib.hid ib; have CS := Lib.hid cs; have A1 := Lib.hid an; have BA := Lib.hid ha
  clear ib cs an ha hC
  by_cases hb : sealBad block page = true
  · have e0 : sealR key ep block page = ([], 1) := by simp [sealR, hb]
    rw [e0]
    rw [hb] at IB
    clear tn hb e0 hv hp hT lk hbk
    go_enter Tryd.func11, Tryd.ntmps11
    go_wp2_with fail
    refine (IB.out _ BA.out).mono ?_
    rintro e w2 ⟨rfl, hb2⟩
    have B2 := Lib.hid (BA.out.trans (hb2.mono BA.out.size))
    clear hb2
    go_wp2_with fail
    go_ret2
    exact ⟨_, rfl, slB_nil _ _, B2.out⟩
  · have e0 : sealR key ep block page = (sealL key ep block page, 0) := by simp [sealR, hb]
    rw [e0]
    have hb' : sealBad block page = false := by simpa using hb
    have h0 : 0 ≤ block := by simp [sealBad] at hb'; omega
    rw [hb'] at IB
    have TN := Lib.hid (tn h0)
    clear tn hb hb' e0 hv hp hT lk hbk h0
    go_enter Tryd.func11, Tryd.ntmps11
    go_wp2_with fail
    refine (IB.out _ BA.out).mono ?_
    rintro e w2 ⟨rfl, hb2⟩
    have B2 := Lib.hid (BA.out.trans (hb2.mono BA.out.size)); have A2 := Lib.hid (A1.out.below hb2 A1.out.lt)
    clear hb2
    go_wp2_with (refine wpList_load_all (by rfl) 22 _ (by rfl) w.heap.size (by rfl) _ Tryd.underlying22 (by rfl) C _ A2.out (by rw [CS.out]; exact infoDg) ?_)
    refine (TN.out _ B2.out).mono ?_
    rintro e w3 ⟨v3, rfl, hs3, hb3⟩
    have B3 := Lib.hid (B2.out.trans (hb3.mono B2.out.size)); have S3 := Lib.hid hs3
    clear hs3 hb3
    go_wp2_with fail
    go_ret2
    exact ⟨_, rfl, S3.out.mono fun k hk _ => Nat.le_trans B2.out.size hk, B3.out⟩
set_option maxRecDepth 100000 in
set_option maxHeartbeats 4000000 in
/-- Digest, where no book is. -/
theorem pdigN_any (l : List (BitVec 8)) (v : Value) (w : World) (hv : Sl w v l) (hp : l.length ≤ 1048576) (hT : Tabs w) :
    Calls Tryd.prog 33 #[.pointer none, v] w fun e w' => e = .returned (.agg (u8s (digestOf l)).toArray) ∧ Below w.heap.size w w' := by
  obtain ⟨Z, hZ⟩ : ∃ Z, Z = (u8s (List.replicate 32 (0 : BitVec 8))).toArray := ⟨_, rfl⟩
  have zs : Z.size = 32 := by rw [hZ]; simp [u8s_length]
  have hx : ∀ w, (zeroValue 22).run Tryd.prog w = .ok (.agg Z) w := by rw [hZ]; exact fun _ => by kernel_rfl
  obtain ⟨G, hG⟩ : ∃ G, G = (u8s (digestOf l)).toArray := ⟨_, rfl⟩
  have gs : G.size = 32 := by rw [hG]; simp [u8s_length, digestOf_length]
  have go : G.all (·.oneCell') = true := by rw [hG]; exact u8s_one _
  have hsum := fun (wx : World) (vx : Value) (hx : Sls wx vx [l]) (ht : Tabs wx) => sumAll_any [l] vx wx (by simp; omega) (by simp) hx ht
  rw [show [l].flatten = l by simp, ← hG] at hsum
  have az := at_new w Z 22
  have bz : Below w.heap.size w (w.alloc (.cells Z 22)) := (Below.refl _ _).alloc (Nat.le_refl _) _
  have hsl := sls_lit1 (hv.below bz)
  rw [← hG]
  have bl : Below w.heap.size w ((w.alloc (.cells Z 22)).alloc (.cells #[v] 26)) := bz.alloc (by simp) _
  have az2 := az.alloc (.cells #[v] 26)
  have ht2 := hT.below bl (Nat.le_refl _)
  obtain ⟨a0, c0, rfl⟩ := sl_inv hv
  obtain ⟨n, hn⟩ : ∃ n, n = l.length := ⟨_, rfl⟩
  rw [← hn] at hsl bl az2 ht2 ⊢
  have ZS := Lib.hid zs; have GS := Lib.hid gs; have GO := Lib.hid go; have SUM := Lib.hid hsum; have SLS := Lib.hid hsl; have BL := Lib.hid bl; have AZ := Lib.hid az2; have TT := Lib.hid ht2
  clear zs gs go hsum hsl bl az2 ht2 az bz hv hp hT hZ hG hn
  go_enter Tryd.func33, Tryd.ntmps33
  go_wp2_with fail
  clear hx
  have hs2 : (w.alloc (.cells Z 22)).heap.size = w.heap.size + 1 := by simp
  rw [hs2] at SLS
  refine (SUM.out _ _ SLS.out TT.out).mono ?_
  rintro e w3 ⟨rfl, hb3⟩
  have A3 := Lib.hid (AZ.out.below hb3 AZ.out.lt); have B3 := Lib.hid (BL.out.trans (hb3.mono BL.out.size))
  clear hb3 SLS hs2 BL AZ TT SUM
  go_wp2_with (refine wpList_store_all (by rfl) 22 _ _ (by rfl) (by rfl) w.heap.size G (by rfl) (by rfl) (by rw [GS.out]; exact infoDg) Z _ A3.out (by rw [ZS.out, GS.out]) GO.out ?_)
  try simp only [Exit.inBlock, Exit.then]
  refine ret_row (by rfl) w.heap.size 22 G _ (by rfl) (A3.out.row G) Tryd.underlying22 (by rfl) (by rw [GS.out]; exact infoDg) ?_
  exact ⟨rfl, below_row B3.out (Nat.le_refl _) G⟩
end Sha
end Go.Proofs.YtmfgimkopddcgaaDoor
namespace Go.Proofs.YtmfgimkopddcgaaDoor
namespace Sha
open Go.RowKit Mem
abbrev bkp (b : Nat) : Value := .pointer (some ⟨b, 0, none⟩)
/-- The book at block bk, with all its memory in blocks of F; D: the noted bytes. -/
structure BkV (F D : Foot) (bk : Nat) (w : World) (ts : List (List (BitVec 8))) (v : Value) : Prop where
  box : F bk
  lt : ∀ k, F k → k < w.heap.size
  row : At w bk #[v] 59
  ov : ∀ k, v.ownBlock = some k → F k ∧ k ≠ bk
  dF : ∀ k, D k → F k ∧ k ≠ bk ∧ v.ownBlock ≠ some k
  hs : ∃ hs : List Value, Each2 (fun p q => SlB D w p q) hs ts ∧ w.ownsRow 0 26 1 v ts.length hs
def Bk (F : Foot) (bk : Nat) (w : World) (ts : List (List (BitVec 8))) : Prop := ∃ D v, BkV F D bk w ts v
theorem BkV.keep {F D : Foot} {bk : Nat} {w w' : World} {ts : List (List (BitVec 8))} {v : Value} (h : BkV F D bk w ts v) (hs : w.heap.size ≤ w'.heap.size) (hk : ∀ k, F k → k < w.heap.size → w'.heap[k]? = w.heap[k]?) : BkV F D bk w' ts v := by
  obtain ⟨l, h1, h2⟩ := h.hs
  refine ⟨h.box, fun k hF => Nat.lt_of_lt_of_le (h.lt k hF) hs, ?_, h.ov, h.dF, l, h1.mono fun _ _ g => g.keep hs fun k hd hlt => hk k (h.dF k hd).1 hlt, ownsRow_keep h2 fun g hg => hk g (h.ov g hg).1 (World.ownsRow.lt h2 g hg).2⟩
  have h8 := h.row
  unfold At at *
  rw [hk bk h.box (h.lt bk h.box)]; exact h8
theorem Bk.keep {F : Foot} {bk : Nat} {w w' : World} {ts : List (List (BitVec 8))} (h : Bk F bk w ts) (hs : w.heap.size ≤ w'.heap.size) (hk : ∀ k, F k → k < w.heap.size → w'.heap[k]? = w.heap[k]?) : Bk F bk w' ts := by
  obtain ⟨D, v, h⟩ := h
  exact ⟨D, v, h.keep hs hk⟩
/-- A new book. -/
theorem bk_new (w : World) : Bk (fun k => k = w.heap.size) w.heap.size (w.alloc (.cells #[.slice none 0 0] 59)) [] :=
  ⟨fun _ => False, .slice none 0 0, rfl, fun k hk => by subst hk; simp, at_new w _ _, fun k hk => by simp [Value.ownBlock] at hk, fun k hk => hk.elim, [], trivial, ownsRow_nil0 _ _ _ _⟩
/-- One more is noted. -/
theorem bk_add {F D : Foot} {bk : Nat} {w w2 w3 w5 w8 : World} {ts : List (List (BitVec 8))} {v v' v2 : Value} {x : List (BitVec 8)} {hs : List Value} (h : BkV F D bk w ts v) (he : Each2 (fun p q => SlB D w p q) hs ts) (hown : w.ownsRow 0 26 1 v ts.length hs)
    (hb : Below w.heap.size w w2) (ho : OwnB w2 w.heap.size v2 x) (hb2 : Below w2.heap.size w2 w3) (ha : App w3 w5 v v') (hb5 : Below 0 w3 w5) (ho5 : w5.ownsRow 0 26 1 v' (ts.length + 1) (hs ++ [v2]))
    (hA : At w8 bk #[v'] 59) (hk2 : ∀ k, k ≠ bk → w8.heap[k]? = w5.heap[k]?) (hk : ∀ B a, Below B a w5 → B ≤ bk → Below B a w8) :
    Bk (grow F w w8) bk w8 (ts ++ [x]) ∧ Chg F w w8 := by
  have hb3 : Below w.heap.size w w3 := hb.trans (hb2.mono hb.size)
  have hbk := h.lt bk h.box
  have h58 := hk 0 w5 (Below.refl _ _) (Nat.zero_le _)
  have h35 := ha.size
  have hsz : w.heap.size ≤ w8.heap.size := Nat.le_trans hb3.size (Nat.le_trans h35 h58.size)
  have s2 : SlB (fun k => D k ∨ v2.ownBlock = some k) w3 v2 x := by
    have h0 : SlB (fun k => D k ∨ v2.ownBlock = some k) w2 v2 x := by
      refine ⟨by simp [u8s_length], ?_⟩
      obtain ⟨a, cap, e, hc, hr⟩ := ho.open
      refine ⟨a, cap, e, hc, fun hne => ?_⟩
      obtain ⟨g, ea, _, hlt, hcell⟩ := hr (fun h0 => hne (by rw [h0]; rfl))
      refine ⟨g, 0, ea, .inr (by rw [e, ea]; rfl), hlt, fun j u hu => ?_⟩
      have hj : j < x.length := by
        have := (List.getElem?_eq_some_iff.1 hu).1
        rwa [u8s_length] at this
      rw [Nat.zero_add, hcell j hj, ← u8s_get x j hj, hu]
    exact h0.keep hb2.size fun k _ hlt => hb2.block k hlt
  have e3 : Each2 (fun p q => SlB (fun k => D k ∨ v2.ownBlock = some k) w3 p q) (hs ++ [v2]) (ts ++ [x]) :=
    Each2.snoc s2 (he.mono fun _ _ g => (g.keep hb3.size fun k _ hlt => hb3.block k hlt).mono fun _ hk _ => .inl hk)
  have hv' : ∀ k, v'.ownBlock = some k → (F k ∨ w3.heap.size ≤ k) ∧ k ≠ bk ∧ k < w5.heap.size := fun k hk' => by
    have hlt := (World.ownsRow.lt ho5 k hk').2
    rcases ha.b with e | ⟨g, e, hg⟩
    · rw [e] at hk'; exact ⟨.inl (h.ov k hk').1, (h.ov k hk').2, hlt⟩
    · rw [e] at hk'
      have e2 : g = k := by simpa using hk'
      have := hb3.size
      exact ⟨.inr (by omega), by omega, hlt⟩
  have hd' : ∀ k, (D k ∨ v2.ownBlock = some k) → (F k ∨ w.heap.size ≤ k) ∧ k ≠ bk ∧ v.ownBlock ≠ some k ∧ k < w3.heap.size := fun k hk' => by
    rcases hk' with hk' | hk'
    · have hl := h.lt k (h.dF k hk').1
      have := hb3.size
      exact ⟨.inl (h.dF k hk').1, (h.dF k hk').2.1, (h.dF k hk').2.2, by omega⟩
    · have h6 := ho.lt k hk'
      have := hb2.size
      refine ⟨.inr h6.1, by omega, fun e => ?_, by omega⟩
      have := (World.ownsRow.lt hown k e).2
      omega
  refine ⟨⟨fun k => D k ∨ v2.ownBlock = some k, v', ⟨.inl h.box, hA.lt⟩, grow_lt, hA, fun k hk' => ?_, fun k hk' => ?_, hs ++ [v2], ?_, ?_⟩, ?_⟩
  · obtain ⟨h1, h2, h3⟩ := hv' k hk'
    have := hb3.size
    have := h58.size
    exact ⟨⟨h1.imp id fun g => by omega, by omega⟩, h2⟩
  · obtain ⟨h1, h2, h3, h4⟩ := hd' k hk'
    have := h58.size
    refine ⟨⟨h1, by omega⟩, h2, fun e => ?_⟩
    rcases ha.b with e2 | ⟨g, e2, hg⟩
    · rw [e2] at e; exact h3 e
    · rw [e2] at e
      have : g = k := by simpa using e
      omega
  · refine e3.mono fun _ _ g => g.keep (Nat.le_trans h35 h58.size) fun k hd hlt => ?_
    obtain ⟨_, h2, h3, _⟩ := hd' k hd
    rw [hk2 k h2, ha.k k hlt h3]
  · rw [List.length_append]
    exact ownsRow_keep ho5 fun g hg => hk2 g (hv' g hg).2.1
  · refine ⟨h58.os.trans (hb5.os.trans hb3.os), h58.tape.trans (hb5.tape.trans hb3.tape), h58.output.trans (hb5.output.trans hb3.output), hsz, fun k hlt hn => ?_⟩
    have hne : k ≠ bk := fun e => hn (e ▸ h.box)
    rw [hk2 k hne, ha.k k (Nat.lt_of_lt_of_le hlt hb3.size) fun e => hn (h.ov k e).1, hb3.block k hlt]
/-- A book, or none. -/
def BkO (F : Foot) (bp : Value) (w : World) (ts : List (List (BitVec 8))) : Prop := (bp = .pointer none ∧ ∀ k, ¬ F k) ∨ ∃ bk, bp = bkp bk ∧ Bk F bk w ts
theorem BkO.keep {F : Foot} {bp : Value} {w w' : World} {ts : List (List (BitVec 8))} (h : BkO F bp w ts) (hs : w.heap.size ≤ w'.heap.size) (hk : ∀ k, F k → k < w.heap.size → w'.heap[k]? = w.heap[k]?) : BkO F bp w' ts :=
  h.imp id fun ⟨bk, e, g⟩ => ⟨bk, e, g.keep hs hk⟩
theorem BkO.below {F : Foot} {bp : Value} {w w' : World} {ts : List (List (BitVec 8))} (h : BkO F bp w ts) (hb : Below w.heap.size w w') : BkO F bp w' ts := h.keep hb.size fun k _ hlt => hb.block k hlt
theorem BkO.lt {F : Foot} {bp : Value} {w : World} {ts : List (List (BitVec 8))} (h : BkO F bp w ts) : ∀ k, F k → k < w.heap.size := fun k hF => by
  rcases h with ⟨_, h⟩ | ⟨bk, _, D, v, h⟩
  · exact absurd hF (h k)
  · exact h.lt k hF
/-- What a call made of the book. -/
def BkEnd (F : Foot) (bp : Value) (w : World) (ts : List (List (BitVec 8))) (w' : World) : Prop := (∃ F', BkO F' bp w' ts ∧ ∀ k, F' k → F k ∨ w.heap.size ≤ k) ∧ Chg F w w'
theorem elemRS9 : elemR Tryd.prog 44 26 (.slice none 0 0) 1 24 := ⟨Tryd.underlying44, by kernel_rfl⟩
theorem infoSh9 : (Tryd.prog.info? 44).map (·.size) = some 1 := by kernel_rfl
theorem own_hd9 {w : World} {B n : Nat} {v : Value} {l : List (BitVec 8)} (h : OwnB w B v l) (hn : n = l.length) : ∃ a c, v = .slice a n c := by
  subst hn
  obtain ⟨a, c, e, _⟩ := h.open
  exact ⟨a, c, e⟩
theorem dig_end {F : Foot} {bk : Nat} {w w1 w8 w9 : World} {ts : List (List (BitVec 8))} (hal : Below w.heap.size w w1) (flt : ∀ k, F k → k < w.heap.size) (h1 : w1.heap.size = w.heap.size + 1) (h : Bk (grow F w1.drew w8) bk w8 ts ∧ Chg F w1.drew w8) (hb : Below w8.heap.size w8 w9) (M : Array Value) :
    (∃ F', Bk F' bk (w9.setRow w.heap.size M) ts ∧ ∀ k, F' k → F k ∨ w.heap.size ≤ k) ∧ Chg F w (w9.setRow w.heap.size M) := by
  refine ⟨⟨grow F w1.drew w8, (h.1.keep hb.size fun k _ hlt => hb.block k hlt).keep (by simp) fun k hk _ => setRow_other w9 _ k M ?_, fun k hk => ?_⟩, ?_⟩
  · rcases hk.1 with g | g
    · have := flt k g; omega
    · have g : w1.heap.size ≤ k := g
      omega
  · rcases hk.1 with g | g
    · exact .inl g
    · have g : w1.heap.size ≤ k := g
      exact .inr (by omega)
  · have c9 : Chg F w w9 := (((Chg.of_below hal).drew).trans (F1 := F) h.2 fun _ hx => .inl hx).trans (F1 := F) (Chg.of_below hb) fun _ hx => .inl hx
    exact c9.trans (F1 := fun k => k = w.heap.size) ⟨rfl, rfl, rfl, by simp, fun k _ hn => setRow_other w9 _ k M hn⟩ fun x hx => .inr (by omega)
set_option maxRecDepth 100000 in
set_option maxHeartbeats 4000000 in
/-- Digest, with a book. -/
theorem pdigB_any {F G : Foot} {bk : Nat} {ts : List (List (BitVec 8))} (l : List (BitVec 8)) (v : Value) (w x : World) (hr : Bk F bk w ts) (hn : ts.length < 100000) (hv : SlB G w v l) (hG : ∀ k, G k → ¬ F k) (hp : l.length ≤ 1000000) (hT : Tabs x) (hxw : Below x.heap.size x w) (hF : ∀ k, F k → x.heap.size ≤ k) :
    Calls Tryd.prog 33 #[bkp bk, v] w fun e w' => e = .returned (.agg (u8s (digestOf l)).toArray) ∧ ((∃ F', Bk F' bk w' (ts ++ [l]) ∧ ∀ k, F' k → F k ∨ w.heap.size ≤ k) ∧ Chg F w w') := by
  obtain ⟨Z, hZ⟩ : ∃ Z, Z = (u8s (List.replicate 32 (0 : BitVec 8))).toArray := ⟨_, rfl⟩
  have zs : Z.size = 32 := by rw [hZ]; simp [u8s_length]
  have hx : ∀ w, (zeroValue 22).run Tryd.prog w = .ok (.agg Z) w := by rw [hZ]; exact fun _ => by kernel_rfl
  obtain ⟨G32, hG32⟩ : ∃ G, G = (u8s (digestOf l)).toArray := ⟨_, rfl⟩
  have gs : G32.size = 32 := by rw [hG32]; simp [u8s_length, digestOf_length]
  have go : G32.all (·.oneCell') = true := by rw [hG32]; exact u8s_one _
  have hsum := fun (wx : World) (vx : Value) (hx : Sls wx vx [l]) (ht : Tabs wx) => sumAll_any [l] vx wx (by simp; omega) (by simp) hx ht
  rw [show [l].flatten = l by simp, ← hG32] at hsum
  rw [← hG32]
  have hal : Below w.heap.size w (w.alloc (.cells Z 22)) := (Below.refl _ _).alloc (Nat.le_refl _) _
  have haz := at_new w Z 22
  obtain ⟨w1, hw1⟩ : ∃ w1, w1 = w.alloc (.cells Z 22) := ⟨_, rfl⟩
  obtain ⟨D, vb, hb0⟩ := hr
  have hb1 : BkV F D bk w1 ts vb := by rw [hw1]; exact hb0.keep hal.size fun k _ hlt => hal.block k hlt
  have hv1 : SlB G w1 v l := by rw [hw1]; exact hv.keep hal.size fun k _ hlt => hal.block k hlt
  rw [← hw1] at haz hal
  obtain ⟨hs, he, hown⟩ := hb1.hs
  obtain ⟨asx, caps, rfl⟩ := rows_hd hown
  have hbkw : bk < w.heap.size := hb0.lt bk hb0.box
  have hFlt := hb0.lt
  have hne := own_ne_at hown hb1.row (by decide)
  have hcl := pclone_any l v w1.drew hp (hv1.sl.below (Below.refl _ _).drew)
  obtain ⟨a0, c0, rfl⟩ := sl_inv hv.sl
  obtain ⟨L, hL⟩ : ∃ L, L = l.length := ⟨_, rfl⟩
  obtain ⟨M, hM⟩ : ∃ M, M = ts.length := ⟨_, rfl⟩
  rw [← hL] at hv hv1 hcl ⊢
  rw [← hM] at hn hb1 hown hne
  have hrow := hb1.row
  have g1 : (M : Int) < 100000 := by omega
  have c1 : w1.drew.cell? ⟨bk, 0, none⟩ = some (.slice asx M caps) := by show w1.cell? _ = _; rw [hrow.cell]; rfl
  have c1' : w1.cell? ⟨bk, 0, none⟩ = some (.slice asx M caps) := c1
  have HV : Hid (BkV F D bk w1.drew ts (.slice asx M caps)) := Lib.hid (hb1.keep (Nat.le_refl _) fun _ _ _ => rfl)
  have CL := Lib.hid hcl; have HROW : Hid (At w1.drew bk #[.slice asx M caps] 59) := hrow.drew; have HO : Hid (w1.drew.ownsRow 0 26 1 (.slice asx M caps) M hs) := hown; have HE : Hid (Each2 (fun p q => SlB D w1.drew p q) hs ts) := he
  have ZS := Lib.hid zs; have GS := Lib.hid gs; have GO := Lib.hid go; have SUM := Lib.hid hsum; have HAL := Lib.hid hal; have HAZ := Lib.hid haz; have HV1 := Lib.hid hv1; have HG := Lib.hid hG; have HF := Lib.hid hF; have HX := Lib.hid hxw; have HT := Lib.hid hT; have C1 := Lib.hid c1; have NE := Lib.hid hne; have HM := Lib.hid hM; have XL := Lib.hid hL; have BKW := Lib.hid hbkw; have HW1 := Lib.hid hw1; have FLT := Lib.hid hFlt
  clear zs gs go hsum hal haz hv1 hv hG hF hxw hT hb1 hb0 hcl hrow hown he hne hM hL hZ hG32 hp hbkw hFlt
  go_enter Tryd.func33, Tryd.ntmps33
  go_upto_region 1 with fail
  rw [← HW1.out]
  clear hx hw1
  go_wp2_with fail
  refine wp_region_plan_in (fun _ => True) (.take 0 (.take 1 (.take 2 (.take 3 (.take 5 (.two 4 6 (.sole 6 (.sole 7 (.sole 8 (.take 9 (.take 10 (.sole 11 .done)))))) (.two 4 7 (.sole 7 (.sole 8 (.take 9 (.take 10 (.sole 11 .done))))) (.sole 4 (.sole 8 (.take 9 (.take 10 (.sole 11 .done)))))))))))) (by kernel_rfl) (by kernel_rfl) (by kernel_rfl) trivial ?_
  (first | (refine plan_move _ _ (by rfl) (by rfl) (.inl (by rfl)) (by first | (with_reducible exact Mem.ev_const _ _) | (with_reducible exact Mem.ev_zero _ _ _) | (with_reducible (apply Eq.trans (Mem.ev_tmp _ _ _)); simp only [List.getD_cons_succ, List.getD_cons_zero] <;> rfl)) ?_) | (refine plan_move _ _ (by rfl) (by rfl) (.inr (by rfl)) (by first | (with_reducible exact Mem.ev_const _ _) | (with_reducible exact Mem.ev_zero _ _ _) | (with_reducible (apply Eq.trans (Mem.ev_tmp _ _ _)); simp only [List.getD_cons_succ, List.getD_cons_zero] <;> rfl)) ?_) | (refine plan_pick_t _ _ _ _ (by rfl) (by rfl) (by rfl) (by first | (with_reducible exact Mem.ev_const _ _) | (with_reducible exact Mem.ev_zero _ _ _) | (with_reducible (apply Eq.trans (Mem.ev_tmp _ _ _)); simp only [List.getD_cons_succ, List.getD_cons_zero] <;> rfl)) (by first | (with_reducible exact Mem.ev_const _ _) | (with_reducible exact Mem.ev_zero _ _ _) | (with_reducible (apply Eq.trans (Mem.ev_tmp _ _ _)); simp only [List.getD_cons_succ, List.getD_cons_zero] <;> rfl)) ?_) | (refine plan_pick_f _ _ _ _ (by rfl) (by rfl) (by rfl) (by first | (with_reducible exact Mem.ev_const _ _) | (with_reducible exact Mem.ev_zero _ _ _) | (with_reducible (apply Eq.trans (Mem.ev_tmp _ _ _)); simp only [List.getD_cons_succ, List.getD_cons_zero] <;> rfl)) (by first | (with_reducible exact Mem.ev_const _ _) | (with_reducible exact Mem.ev_zero _ _ _) | (with_reducible (apply Eq.trans (Mem.ev_tmp _ _ _)); simp only [List.getD_cons_succ, List.getD_cons_zero] <;> rfl)) ?_))
  (simp only [Act.put, List.setIfInBounds_toArray, List.set_cons_zero, List.set_cons_succ])
  (first | (refine plan_move _ _ (by rfl) (by rfl) (.inl (by rfl)) (by first | (with_reducible exact Mem.ev_const _ _) | (with_reducible exact Mem.ev_zero _ _ _) | (with_reducible (apply Eq.trans (Mem.ev_tmp _ _ _)); simp only [List.getD_cons_succ, List.getD_cons_zero] <;> rfl)) ?_) | (refine plan_move _ _ (by rfl) (by rfl) (.inr (by rfl)) (by first | (with_reducible exact Mem.ev_const _ _) | (with_reducible exact Mem.ev_zero _ _ _) | (with_reducible (apply Eq.trans (Mem.ev_tmp _ _ _)); simp only [List.getD_cons_succ, List.getD_cons_zero] <;> rfl)) ?_) | (refine plan_pick_t _ _ _ _ (by rfl) (by rfl) (by rfl) (by first | (with_reducible exact Mem.ev_const _ _) | (with_reducible exact Mem.ev_zero _ _ _) | (with_reducible (apply Eq.trans (Mem.ev_tmp _ _ _)); simp only [List.getD_cons_succ, List.getD_cons_zero] <;> rfl)) (by first | (with_reducible exact Mem.ev_const _ _) | (with_reducible exact Mem.ev_zero _ _ _) | (with_reducible (apply Eq.trans (Mem.ev_tmp _ _ _)); simp only [List.getD_cons_succ, List.getD_cons_zero] <;> rfl)) ?_) | (refine plan_pick_f _ _ _ _ (by rfl) (by rfl) (by rfl) (by first | (with_reducible exact Mem.ev_const _ _) | (with_reducible exact Mem.ev_zero _ _ _) | (with_reducible (apply Eq.trans (Mem.ev_tmp _ _ _)); simp only [List.getD_cons_succ, List.getD_cons_zero] <;> rfl)) (by first | (with_reducible exact Mem.ev_const _ _) | (with_reducible exact Mem.ev_zero _ _ _) | (with_reducible (apply Eq.trans (Mem.ev_tmp _ _ _)); simp only [List.getD_cons_succ, List.getD_cons_zero] <;> rfl)) ?_))
  (simp only [Act.put, List.setIfInBounds_toArray, List.set_cons_zero, List.set_cons_succ])
  refine plan_nilcheck _ ⟨bk, 0, none⟩ (by rfl) (by rfl) (by rfl) (by first | (with_reducible exact Mem.ev_const _ _) | (with_reducible exact Mem.ev_zero _ _ _) | (with_reducible (apply Eq.trans (Mem.ev_tmp _ _ _)); simp only [List.getD_cons_succ, List.getD_cons_zero] <;> rfl)) ?_
  (simp only [Act.put, List.setIfInBounds_toArray, List.set_cons_zero, List.set_cons_succ])
  refine plan_field 59 _ 0 bk 0 ⟨bk, 0, none⟩ (by rfl) (by rfl) (by rfl) (by first | (with_reducible exact Mem.ev_const _ _) | (with_reducible exact Mem.ev_zero _ _ _) | (with_reducible (apply Eq.trans (Mem.ev_tmp _ _ _)); simp only [List.getD_cons_succ, List.getD_cons_zero] <;> rfl)) (fun wx => by go_simp) ?_
  (simp only [Act.put, List.setIfInBounds_toArray, List.set_cons_zero, List.set_cons_succ])
  (first | (refine plan_move _ _ (by rfl) (by rfl) (.inl (by rfl)) (by first | (with_reducible exact Mem.ev_const _ _) | (with_reducible exact Mem.ev_zero _ _ _) | (with_reducible (apply Eq.trans (Mem.ev_tmp _ _ _)); simp only [List.getD_cons_succ, List.getD_cons_zero] <;> rfl)) ?_) | (refine plan_move _ _ (by rfl) (by rfl) (.inr (by rfl)) (by first | (with_reducible exact Mem.ev_const _ _) | (with_reducible exact Mem.ev_zero _ _ _) | (with_reducible (apply Eq.trans (Mem.ev_tmp _ _ _)); simp only [List.getD_cons_succ, List.getD_cons_zero] <;> rfl)) ?_) | (refine plan_pick_t _ _ _ _ (by rfl) (by rfl) (by rfl) (by first | (with_reducible exact Mem.ev_const _ _) | (with_reducible exact Mem.ev_zero _ _ _) | (with_reducible (apply Eq.trans (Mem.ev_tmp _ _ _)); simp only [List.getD_cons_succ, List.getD_cons_zero] <;> rfl)) (by first | (with_reducible exact Mem.ev_const _ _) | (with_reducible exact Mem.ev_zero _ _ _) | (with_reducible (apply Eq.trans (Mem.ev_tmp _ _ _)); simp only [List.getD_cons_succ, List.getD_cons_zero] <;> rfl)) ?_) | (refine plan_pick_f _ _ _ _ (by rfl) (by rfl) (by rfl) (by first | (with_reducible exact Mem.ev_const _ _) | (with_reducible exact Mem.ev_zero _ _ _) | (with_reducible (apply Eq.trans (Mem.ev_tmp _ _ _)); simp only [List.getD_cons_succ, List.getD_cons_zero] <;> rfl)) (by first | (with_reducible exact Mem.ev_const _ _) | (with_reducible exact Mem.ev_zero _ _ _) | (with_reducible (apply Eq.trans (Mem.ev_tmp _ _ _)); simp only [List.getD_cons_succ, List.getD_cons_zero] <;> rfl)) ?_))
  (simp only [Act.put, List.setIfInBounds_toArray, List.set_cons_zero, List.set_cons_succ])
  refine plan_two ?_ ?_
  · refine plan_sole_cell 44 _ _ (.slice asx M caps) _ (by rfl) (by rfl) (by rfl) (by first | (with_reducible exact Mem.ev_const _ _) | (with_reducible exact Mem.ev_zero _ _ _) | (with_reducible (apply Eq.trans (Mem.ev_tmp _ _ _)); simp only [List.getD_cons_succ, List.getD_cons_zero] <;> rfl)) (by first | exact C1.out | exact C2.out | exact C3.out) Tryd.underlying44 (by rfl) trivial ?_
    (simp only [Act.put, List.setIfInBounds_toArray, List.set_cons_zero, List.set_cons_succ])
    refine plan_call 40 _ _ _ (by kernel_rfl) (by rfl) (by rfl) (by rfl) (by first | exact Mem.ev_none _ | (simp only [List.map_toArray, List.map_cons, List.map_nil, Mem.ev_tmp, List.getD_cons_succ, List.getD_cons_zero] <;> rfl)) ?_
    refine CL.out.mono ?_
    rintro o w2 ⟨v2, rfl, ho2, hb2⟩
    obtain ⟨a2, c2, rfl⟩ := own_hd9 ho2 XL.out
    have C2 : Hid (w2.cell? ⟨bk, 0, none⟩ = some (.slice asx M caps)) := by have h := C1.out; rw [hb2.cell (p := ⟨bk, 0, none⟩) (HV.out.lt bk HV.out.box)]; exact h
    have C3 : Hid ((w2.alloc (.cells #[.slice a2 L c2] 26)).cell? ⟨bk, 0, none⟩ = some (.slice asx M caps)) := (cell_alloc (block_lt_of_cell C2.out)).trans C2.out
    have O2 := Lib.hid ho2; have B2 := Lib.hid hb2; have OW := Lib.hid (ownsRow_below (ownsRow_below HO.out hb2) ((Below.refl _ w2).alloc (Nat.le_refl _) (.cells #[.slice a2 L c2] 26)))
    clear ho2 hb2
    refine ⟨_, rfl, trivial, ?_⟩
    (simp only [Act.put, List.setIfInBounds_toArray, List.set_cons_zero, List.set_cons_succ])
    refine plan_slice 44 26 1 _ #[.slice a2 L c2] (by rfl) (by rfl) (by rfl) Tryd.underlying44 (by kernel_rfl) trivial ?_
    (simp only [Act.put, List.setIfInBounds_toArray, List.set_cons_zero, List.set_cons_succ])
    refine plan_append_app _ _ 44 (by rfl) (by rfl) (by rfl) (.slice (some ⟨w2.heap.size, 0, none⟩) 1 1) M 1 1 [.slice a2 L c2] (.slice none 0 0) 24 elemRS9 (by rfl) (by decide) (by first | (with_reducible exact Mem.ev_const _ _) | (with_reducible exact Mem.ev_zero _ _ _) | (with_reducible (apply Eq.trans (Mem.ev_tmp _ _ _)); simp only [List.getD_cons_succ, List.getD_cons_zero] <;> rfl)) OW.out (by first | (with_reducible exact Mem.ev_const _ _) | (with_reducible exact Mem.ev_zero _ _ _) | (with_reducible (apply Eq.trans (Mem.ev_tmp _ _ _)); simp only [List.getD_cons_succ, List.getD_cons_zero] <;> rfl)) (by exact rdR_new (e := 26) (C := #[.slice a2 L c2])) (by simp [Value.oneCell']) (by omega) (by omega) (by omega) ?_
    intro v5 w5 ho5 ha5 hb5
    obtain ⟨a5, c5, rfl⟩ := rows_hd ho5
    have O5 := Lib.hid ho5; have A5 := Lib.hid ha5; have B5 := Lib.hid hb5
    have R5 : Hid (At w5 bk #[.slice asx M caps] 59) := Lib.hid (at_appd (((HROW.out.below B2.out (HV.out.lt bk HV.out.box))).alloc _) A5.out NE.out)
    clear ho5 ha5 hb5
    refine ⟨trivial, ?_⟩
    (simp only [Act.put, List.setIfInBounds_toArray, List.set_cons_zero, List.set_cons_succ])
    refine plan_nilcheck _ ⟨bk, 0, none⟩ (by rfl) (by rfl) (by rfl) (by first | (with_reducible exact Mem.ev_const _ _) | (with_reducible exact Mem.ev_zero _ _ _) | (with_reducible (apply Eq.trans (Mem.ev_tmp _ _ _)); simp only [List.getD_cons_succ, List.getD_cons_zero] <;> rfl)) ?_
    (simp only [Act.put, List.setIfInBounds_toArray, List.set_cons_zero, List.set_cons_succ])
    refine plan_field 59 _ 0 bk 0 ⟨bk, 0, none⟩ (by rfl) (by rfl) (by rfl) (by first | (with_reducible exact Mem.ev_const _ _) | (with_reducible exact Mem.ev_zero _ _ _) | (with_reducible (apply Eq.trans (Mem.ev_tmp _ _ _)); simp only [List.getD_cons_succ, List.getD_cons_zero] <;> rfl)) (fun wx => by go_simp) ?_
    (simp only [Act.put, List.setIfInBounds_toArray, List.set_cons_zero, List.set_cons_succ])
    refine plan_store_one 44 _ _ bk 0 (.slice a5 (M + 1) c5) _ 59 (by rfl) (by rfl) (by rfl) (by rfl) (by first | (with_reducible exact Mem.ev_const _ _) | (with_reducible exact Mem.ev_zero _ _ _) | (with_reducible (apply Eq.trans (Mem.ev_tmp _ _ _)); simp only [List.getD_cons_succ, List.getD_cons_zero] <;> rfl)) (by first | (with_reducible exact Mem.ev_const _ _) | (with_reducible exact Mem.ev_zero _ _ _) | (with_reducible (apply Eq.trans (Mem.ev_tmp _ _ _)); simp only [List.getD_cons_succ, List.getD_cons_zero] <;> rfl)) (by rfl) infoSh9 R5.out (by simp) trivial ?_
    refine plan_nil ?_
    have E8 := Lib.hid (bk_add (v' := .slice a5 (M + 1) c5) HV.out HE.out (by rw [← HM.out]; exact HO.out) B2.out O2.out ((Below.refl _ w2).alloc (Nat.le_refl _) _) A5.out B5.out (by rw [← HM.out]; exact O5.out) (R5.out.set 0 (.slice a5 (M + 1) c5)) (fun k hk => heap_setCell_other w5 ⟨bk, 0, none⟩ k _ hk) (fun B a hB hle => hB.setCell hle _))
    generalize w5.setCell ⟨bk, 0, none⟩ (.slice a5 (M + 1) c5) = w8 at *
    clear R5 A5 B5 O5 OW C2 C3 O2 B2 HO HE HROW C1 CL NE XL
    clear HV
    have S8 : Hid (SlB G w8 (.slice a0 L c0) l) := Lib.hid (HV1.out.keep E8.out.2.size fun k hg hlt => E8.out.2.block k hlt (HG.out k hg))
    have BX : Hid (Below x.heap.size x w1) := Lib.hid (HX.out.trans (HAL.out.mono HX.out.size))
    have BX8 : Hid (Below x.heap.size x w8) := Lib.hid (E8.out.2.below BX.out.drew HF.out BX.out.size)
    have A8 : Hid (At w8 w.heap.size Z 22) := Lib.hid (HAZ.out.drew.chg E8.out.2 fun hf => Nat.lt_irrefl _ (FLT.out _ hf))
    have SLS := Lib.hid (sls_lit1 S8.out.sl)
    have T8 := Lib.hid (HT.out.below (BX8.out.alloc BX8.out.size (.cells #[.slice a0 L c0] 26)) (Nat.le_refl _))
    have A9 := Lib.hid (A8.out.alloc (.cells #[.slice a0 L c0] 26))
    clear S8 BX BX8 A8
    go_wp2_with fail
    refine (SUM.out _ _ SLS.out T8.out).mono ?_
    rintro e w9 ⟨rfl, hb9⟩
    have A10 := Lib.hid (A9.out.below hb9 A9.out.lt)
    have B10 : Hid (Below w8.heap.size w8 w9) := Lib.hid (((Below.refl _ w8).alloc (Nat.le_refl _) (.cells #[.slice a0 L c0] 26)).trans (hb9.mono (by simp)))
    clear hb9 SLS T8 A9
    go_wp2_with (refine wpList_store_all (by rfl) 22 _ _ (by rfl) (by rfl) w.heap.size G32 (by rfl) (by rfl) (by rw [GS.out]; exact infoDg) Z _ A10.out (by rw [ZS.out, GS.out]) GO.out ?_)
    try simp only [Exit.inBlock, Exit.then]
    refine ret_row (by rfl) w.heap.size 22 G32 _ (by rfl) (A10.out.row G32) Tryd.underlying22 (by rfl) (by rw [GS.out]; exact infoDg) ?_
    exact ⟨rfl, dig_end HAL.out FLT.out (by rw [HW1.out]; simp) E8.out B10.out G32⟩
  · refine plan_call 40 _ _ _ (by kernel_rfl) (by rfl) (by rfl) (by rfl) (by first | exact Mem.ev_none _ | (simp only [List.map_toArray, List.map_cons, List.map_nil, Mem.ev_tmp, List.getD_cons_succ, List.getD_cons_zero] <;> rfl)) ?_
    refine CL.out.mono ?_
    rintro o w2 ⟨v2, rfl, ho2, hb2⟩
    obtain ⟨a2, c2, rfl⟩ := own_hd9 ho2 XL.out
    have C2 : Hid (w2.cell? ⟨bk, 0, none⟩ = some (.slice asx M caps)) := by have h := C1.out; rw [hb2.cell (p := ⟨bk, 0, none⟩) (HV.out.lt bk HV.out.box)]; exact h
    have C3 : Hid ((w2.alloc (.cells #[.slice a2 L c2] 26)).cell? ⟨bk, 0, none⟩ = some (.slice asx M caps)) := (cell_alloc (block_lt_of_cell C2.out)).trans C2.out
    have O2 := Lib.hid ho2; have B2 := Lib.hid hb2; have OW := Lib.hid (ownsRow_below (ownsRow_below HO.out hb2) ((Below.refl _ w2).alloc (Nat.le_refl _) (.cells #[.slice a2 L c2] 26)))
    clear ho2 hb2
    refine ⟨_, rfl, trivial, ?_⟩
    (simp only [Act.put, List.setIfInBounds_toArray, List.set_cons_zero, List.set_cons_succ])
    refine plan_two ?_ ?_
    · refine plan_sole_cell 44 _ _ (.slice asx M caps) _ (by rfl) (by rfl) (by rfl) (by first | (with_reducible exact Mem.ev_const _ _) | (with_reducible exact Mem.ev_zero _ _ _) | (with_reducible (apply Eq.trans (Mem.ev_tmp _ _ _)); simp only [List.getD_cons_succ, List.getD_cons_zero] <;> rfl)) (by first | exact C1.out | exact C2.out | exact C3.out) Tryd.underlying44 (by rfl) trivial ?_
      (simp only [Act.put, List.setIfInBounds_toArray, List.set_cons_zero, List.set_cons_succ])
      refine plan_slice 44 26 1 _ #[.slice a2 L c2] (by rfl) (by rfl) (by rfl) Tryd.underlying44 (by kernel_rfl) trivial ?_
      (simp only [Act.put, List.setIfInBounds_toArray, List.set_cons_zero, List.set_cons_succ])
      refine plan_append_app _ _ 44 (by rfl) (by rfl) (by rfl) (.slice (some ⟨w2.heap.size, 0, none⟩) 1 1) M 1 1 [.slice a2 L c2] (.slice none 0 0) 24 elemRS9 (by rfl) (by decide) (by first | (with_reducible exact Mem.ev_const _ _) | (with_reducible exact Mem.ev_zero _ _ _) | (with_reducible (apply Eq.trans (Mem.ev_tmp _ _ _)); simp only [List.getD_cons_succ, List.getD_cons_zero] <;> rfl)) OW.out (by first | (with_reducible exact Mem.ev_const _ _) | (with_reducible exact Mem.ev_zero _ _ _) | (with_reducible (apply Eq.trans (Mem.ev_tmp _ _ _)); simp only [List.getD_cons_succ, List.getD_cons_zero] <;> rfl)) (by exact rdR_new (e := 26) (C := #[.slice a2 L c2])) (by simp [Value.oneCell']) (by omega) (by omega) (by omega) ?_
      intro v5 w5 ho5 ha5 hb5
      obtain ⟨a5, c5, rfl⟩ := rows_hd ho5
      have O5 := Lib.hid ho5; have A5 := Lib.hid ha5; have B5 := Lib.hid hb5
      have R5 : Hid (At w5 bk #[.slice asx M caps] 59) := Lib.hid (at_appd (((HROW.out.below B2.out (HV.out.lt bk HV.out.box))).alloc _) A5.out NE.out)
      clear ho5 ha5 hb5
      refine ⟨trivial, ?_⟩
      (simp only [Act.put, List.setIfInBounds_toArray, List.set_cons_zero, List.set_cons_succ])
      refine plan_nilcheck _ ⟨bk, 0, none⟩ (by rfl) (by rfl) (by rfl) (by first | (with_reducible exact Mem.ev_const _ _) | (with_reducible exact Mem.ev_zero _ _ _) | (with_reducible (apply Eq.trans (Mem.ev_tmp _ _ _)); simp only [List.getD_cons_succ, List.getD_cons_zero] <;> rfl)) ?_
      (simp only [Act.put, List.setIfInBounds_toArray, List.set_cons_zero, List.set_cons_succ])
      refine plan_field 59 _ 0 bk 0 ⟨bk, 0, none⟩ (by rfl) (by rfl) (by rfl) (by first | (with_reducible exact Mem.ev_const _ _) | (with_reducible exact Mem.ev_zero _ _ _) | (with_reducible (apply Eq.trans (Mem.ev_tmp _ _ _)); simp only [List.getD_cons_succ, List.getD_cons_zero] <;> rfl)) (fun wx => by go_simp) ?_
      (simp only [Act.put, List.setIfInBounds_toArray, List.set_cons_zero, List.set_cons_succ])
      refine plan_store_one 44 _ _ bk 0 (.slice a5 (M + 1) c5) _ 59 (by rfl) (by rfl) (by rfl) (by rfl) (by first | (with_reducible exact Mem.ev_const _ _) | (with_reducible exact Mem.ev_zero _ _ _) | (with_reducible (apply Eq.trans (Mem.ev_tmp _ _ _)); simp only [List.getD_cons_succ, List.getD_cons_zero] <;> rfl)) (by first | (with_reducible exact Mem.ev_const _ _) | (with_reducible exact Mem.ev_zero _ _ _) | (with_reducible (apply Eq.trans (Mem.ev_tmp _ _ _)); simp only [List.getD_cons_succ, List.getD_cons_zero] <;> rfl)) (by rfl) infoSh9 R5.out (by simp) trivial ?_
      refine plan_nil ?_
      have E8 := Lib.hid (bk_add (v' := .slice a5 (M + 1) c5) HV.out HE.out (by rw [← HM.out]; exact HO.out) B2.out O2.out ((Below.refl _ w2).alloc (Nat.le_refl _) _) A5.out B5.out (by rw [← HM.out]; exact O5.out) (R5.out.set 0 (.slice a5 (M + 1) c5)) (fun k hk => heap_setCell_other w5 ⟨bk, 0, none⟩ k _ hk) (fun B a hB hle => hB.setCell hle _))
      generalize w5.setCell ⟨bk, 0, none⟩ (.slice a5 (M + 1) c5) = w8 at *
      clear R5 A5 B5 O5 OW C2 C3 O2 B2 HO HE HROW C1 CL NE XL
      clear HV
      have S8 : Hid (SlB G w8 (.slice a0 L c0) l) := Lib.hid (HV1.out.keep E8.out.2.size fun k hg hlt => E8.out.2.block k hlt (HG.out k hg))
      have BX : Hid (Below x.heap.size x w1) := Lib.hid (HX.out.trans (HAL.out.mono HX.out.size))
      have BX8 : Hid (Below x.heap.size x w8) := Lib.hid (E8.out.2.below BX.out.drew HF.out BX.out.size)
      have A8 : Hid (At w8 w.heap.size Z 22) := Lib.hid (HAZ.out.drew.chg E8.out.2 fun hf => Nat.lt_irrefl _ (FLT.out _ hf))
      have SLS := Lib.hid (sls_lit1 S8.out.sl)
      have T8 := Lib.hid (HT.out.below (BX8.out.alloc BX8.out.size (.cells #[.slice a0 L c0] 26)) (Nat.le_refl _))
      have A9 := Lib.hid (A8.out.alloc (.cells #[.slice a0 L c0] 26))
      clear S8 BX BX8 A8
      go_wp2_with fail
      refine (SUM.out _ _ SLS.out T8.out).mono ?_
      rintro e w9 ⟨rfl, hb9⟩
      have A10 := Lib.hid (A9.out.below hb9 A9.out.lt)
      have B10 : Hid (Below w8.heap.size w8 w9) := Lib.hid (((Below.refl _ w8).alloc (Nat.le_refl _) (.cells #[.slice a0 L c0] 26)).trans (hb9.mono (by simp)))
      clear hb9 SLS T8 A9
      go_wp2_with (refine wpList_store_all (by rfl) 22 _ _ (by rfl) (by rfl) w.heap.size G32 (by rfl) (by rfl) (by rw [GS.out]; exact infoDg) Z _ A10.out (by rw [ZS.out, GS.out]) GO.out ?_)
      try simp only [Exit.inBlock, Exit.then]
      refine ret_row (by rfl) w.heap.size 22 G32 _ (by rfl) (A10.out.row G32) Tryd.underlying22 (by rfl) (by rw [GS.out]; exact infoDg) ?_
      exact ⟨rfl, dig_end HAL.out FLT.out (by rw [HW1.out]; simp) E8.out B10.out G32⟩
    · refine plan_slice 44 26 1 _ #[.slice a2 L c2] (by rfl) (by rfl) (by rfl) Tryd.underlying44 (by kernel_rfl) trivial ?_
      (simp only [Act.put, List.setIfInBounds_toArray, List.set_cons_zero, List.set_cons_succ])
      refine plan_sole_cell 44 _ _ (.slice asx M caps) _ (by rfl) (by rfl) (by rfl) (by first | (with_reducible exact Mem.ev_const _ _) | (with_reducible exact Mem.ev_zero _ _ _) | (with_reducible (apply Eq.trans (Mem.ev_tmp _ _ _)); simp only [List.getD_cons_succ, List.getD_cons_zero] <;> rfl)) (by first | exact C1.out | exact C2.out | exact C3.out) Tryd.underlying44 (by rfl) trivial ?_
      (simp only [Act.put, List.setIfInBounds_toArray, List.set_cons_zero, List.set_cons_succ])
      refine plan_append_app _ _ 44 (by rfl) (by rfl) (by rfl) (.slice (some ⟨w2.heap.size, 0, none⟩) 1 1) M 1 1 [.slice a2 L c2] (.slice none 0 0) 24 elemRS9 (by rfl) (by decide) (by first | (with_reducible exact Mem.ev_const _ _) | (with_reducible exact Mem.ev_zero _ _ _) | (with_reducible (apply Eq.trans (Mem.ev_tmp _ _ _)); simp only [List.getD_cons_succ, List.getD_cons_zero] <;> rfl)) OW.out (by first | (with_reducible exact Mem.ev_const _ _) | (with_reducible exact Mem.ev_zero _ _ _) | (with_reducible (apply Eq.trans (Mem.ev_tmp _ _ _)); simp only [List.getD_cons_succ, List.getD_cons_zero] <;> rfl)) (by exact rdR_new (e := 26) (C := #[.slice a2 L c2])) (by simp [Value.oneCell']) (by omega) (by omega) (by omega) ?_
      intro v5 w5 ho5 ha5 hb5
      obtain ⟨a5, c5, rfl⟩ := rows_hd ho5
      have O5 := Lib.hid ho5; have A5 := Lib.hid ha5; have B5 := Lib.hid hb5
      have R5 : Hid (At w5 bk #[.slice asx M caps] 59) := Lib.hid (at_appd (((HROW.out.below B2.out (HV.out.lt bk HV.out.box))).alloc _) A5.out NE.out)
      clear ho5 ha5 hb5
      refine ⟨trivial, ?_⟩
      (simp only [Act.put, List.setIfInBounds_toArray, List.set_cons_zero, List.set_cons_succ])
      refine plan_nilcheck _ ⟨bk, 0, none⟩ (by rfl) (by rfl) (by rfl) (by first | (with_reducible exact Mem.ev_const _ _) | (with_reducible exact Mem.ev_zero _ _ _) | (with_reducible (apply Eq.trans (Mem.ev_tmp _ _ _)); simp only [List.getD_cons_succ, List.getD_cons_zero] <;> rfl)) ?_
      (simp only [Act.put, List.setIfInBounds_toArray, List.set_cons_zero, List.set_cons_succ])
      refine plan_field 59 _ 0 bk 0 ⟨bk, 0, none⟩ (by rfl) (by rfl) (by rfl) (by first | (with_reducible exact Mem.ev_const _ _) | (with_reducible exact Mem.ev_zero _ _ _) | (with_reducible (apply Eq.trans (Mem.ev_tmp _ _ _)); simp only [List.getD_cons_succ, List.getD_cons_zero] <;> rfl)) (fun wx => by go_simp) ?_
      (simp only [Act.put, List.setIfInBounds_toArray, List.set_cons_zero, List.set_cons_succ])
      refine plan_store_one 44 _ _ bk 0 (.slice a5 (M + 1) c5) _ 59 (by rfl) (by rfl) (by rfl) (by rfl) (by first | (with_reducible exact Mem.ev_const _ _) | (with_reducible exact Mem.ev_zero _ _ _) | (with_reducible (apply Eq.trans (Mem.ev_tmp _ _ _)); simp only [List.getD_cons_succ, List.getD_cons_zero] <;> rfl)) (by first | (with_reducible exact Mem.ev_const _ _) | (with_reducible exact Mem.ev_zero _ _ _) | (with_reducible (apply Eq.trans (Mem.ev_tmp _ _ _)); simp only [List.getD_cons_succ, List.getD_cons_zero] <;> rfl)) (by rfl) infoSh9 R5.out (by simp) trivial ?_
      refine plan_nil ?_
      have E8 := Lib.hid (bk_add (v' := .slice a5 (M + 1) c5) HV.out HE.out (by rw [← HM.out]; exact HO.out) B2.out O2.out ((Below.refl _ w2).alloc (Nat.le_refl _) _) A5.out B5.out (by rw [← HM.out]; exact O5.out) (R5.out.set 0 (.slice a5 (M + 1) c5)) (fun k hk => heap_setCell_other w5 ⟨bk, 0, none⟩ k _ hk) (fun B a hB hle => hB.setCell hle _))
      generalize w5.setCell ⟨bk, 0, none⟩ (.slice a5 (M + 1) c5) = w8 at *
      clear R5 A5 B5 O5 OW C2 C3 O2 B2 HO HE HROW C1 CL NE XL
      clear HV
      have S8 : Hid (SlB G w8 (.slice a0 L c0) l) := Lib.hid (HV1.out.keep E8.out.2.size fun k hg hlt => E8.out.2.block k hlt (HG.out k hg))
      have BX : Hid (Below x.heap.size x w1) := Lib.hid (HX.out.trans (HAL.out.mono HX.out.size))
      have BX8 : Hid (Below x.heap.size x w8) := Lib.hid (E8.out.2.below BX.out.drew HF.out BX.out.size)
      have A8 : Hid (At w8 w.heap.size Z 22) := Lib.hid (HAZ.out.drew.chg E8.out.2 fun hf => Nat.lt_irrefl _ (FLT.out _ hf))
      have SLS := Lib.hid (sls_lit1 S8.out.sl)
      have T8 := Lib.hid (HT.out.below (BX8.out.alloc BX8.out.size (.cells #[.slice a0 L c0] 26)) (Nat.le_refl _))
      have A9 := Lib.hid (A8.out.alloc (.cells #[.slice a0 L c0] 26))
      clear S8 BX BX8 A8
      go_wp2_with fail
      refine (SUM.out _ _ SLS.out T8.out).mono ?_
      rintro e w9 ⟨rfl, hb9⟩
      have A10 := Lib.hid (A9.out.below hb9 A9.out.lt)
      have B10 : Hid (Below w8.heap.size w8 w9) := Lib.hid (((Below.refl _ w8).alloc (Nat.le_refl _) (.cells #[.slice a0 L c0] 26)).trans (hb9.mono (by simp)))
      clear hb9 SLS T8 A9
      go_wp2_with (refine wpList_store_all (by rfl) 22 _ _ (by rfl) (by rfl) w.heap.size G32 (by rfl) (by rfl) (by rw [GS.out]; exact infoDg) Z _ A10.out (by rw [ZS.out, GS.out]) GO.out ?_)
      try simp only [Exit.inBlock, Exit.then]
      refine ret_row (by rfl) w.heap.size 22 G32 _ (by rfl) (A10.out.row G32) Tryd.underlying22 (by rfl) (by rw [GS.out]; exact infoDg) ?_
      exact ⟨rfl, dig_end HAL.out FLT.out (by rw [HW1.out]; simp) E8.out B10.out G32⟩
end Sha
end Go.Proofs.YtmfgimkopddcgaaDoor
namespace Go.Proofs.YtmfgimkopddcgaaDoor
namespace Sha
open Go.RowKit Mem
theorem pdig_any {F G : Foot} {bp : Value} {ts : List (List (BitVec 8))} (l : List (BitVec 8)) (v : Value) (w x : World) (hr : BkO F bp w ts) (hn : ts.length < 100000) (hv : SlB G w v l) (hG : ∀ k, G k → ¬ F k) (hp : l.length ≤ 1000000) (hT : Tabs x) (hxw : Below x.heap.size x w) (hF : ∀ k, F k → x.heap.size ≤ k) :
    Calls Tryd.prog 33 #[bp, v] w fun e w' => e = .returned (.agg (u8s (digestOf l)).toArray) ∧ BkEnd F bp w (ts ++ [l]) w' := by
  rcases hr with ⟨rfl, hnF⟩ | ⟨bk, rfl, hb⟩
  · refine (pdigN_any l v w hv.sl (by omega) (hT.below hxw (Nat.le_refl _))).mono ?_
    rintro e w' ⟨rfl, hb⟩
    exact ⟨rfl, ⟨F, .inl ⟨rfl, hnF⟩, fun k hk => .inl hk⟩, Chg.of_below hb⟩
  · refine (pdigB_any l v w x hb hn hv hG hp hT hxw hF).mono ?_
    rintro e w' ⟨rfl, ⟨F', h1, h2⟩, hc⟩
    exact ⟨rfl, ⟨F', .inr ⟨bk, rfl, h1⟩, h2⟩, hc⟩
/-- How Hide ends. -/
def HideEnd (F : Foot) (bp : Value) (w : World) (l : List (BitVec 8)) (r : RefV) (n : Int) (ts : List (List (BitVec 8))) (e : Ending) (w' : World) : Prop :=
  ∃ v F', e = .returned (.tuple #[v, .agg (refC r), .int .i64 n]) ∧ SlB (fun k => w.heap.size ≤ k ∧ ¬ F' k) w' v l ∧ BkO F' bp w' ts ∧ (∀ k, F' k → F k ∨ w.heap.size ≤ k) ∧ Chg F w w'
/-- How Open ends. -/
def OpenEnd (F : Foot) (bp : Value) (w : World) (l : List (BitVec 8)) (n : Int) (ts : List (List (BitVec 8))) (e : Ending) (w' : World) : Prop :=
  ∃ v F', e = .returned (.tuple #[v, .int .i64 n]) ∧ SlB (fun k => w.heap.size ≤ k ∧ ¬ F' k) w' v l ∧ BkO F' bp w' ts ∧ (∀ k, F' k → F k ∨ w.heap.size ≤ k) ∧ Chg F w w'
theorem hide_end {F : Foot} {bp v3 : Value} {w w3 w4 : World} {g : Nat} {ts : List (List (BitVec 8))} {L : List (BitVec 8)} (hFl : ∀ k, F k → k < w.heap.size) (b3 : Below w.heap.size w w3) (hg : w.heap.size ≤ g) (hg3 : g < w3.heap.size) (hs : SlB (fun k => g < k) w3 v3 L) (hk : BkEnd F bp w3 ts w4) (M : Array Value) :
    ∃ F', SlB (fun k => w.heap.size ≤ k ∧ ¬ F' k) (w4.setRow g M) v3 L ∧ BkO F' bp (w4.setRow g M) ts ∧ (∀ k, F' k → F k ∨ w.heap.size ≤ k) ∧ Chg F w (w4.setRow g M) := by
  obtain ⟨⟨F', h1, h2⟩, hc⟩ := hk
  have hz := b3.size
  refine ⟨F', ?_, h1.keep (by simp) fun k hk _ => setRow_other w4 _ k M fun e => ?_, fun k hk => ?_, ?_⟩
  · have s3 : SlB (fun k => g < k ∧ k < w3.heap.size) w3 v3 L := hs.mono fun k hk hlt => ⟨hk, hlt⟩
    have s4 : SlB (fun k => g < k ∧ k < w3.heap.size) w4 v3 L := s3.keep hc.size fun k hk hlt => hc.block k hlt fun hf => by have := hFl k hf; omega
    have s5 : SlB (fun k => g < k ∧ k < w3.heap.size) (w4.setRow g M) v3 L := s4.keep (by simp) fun k hk _ => setRow_other w4 _ k M (by omega)
    refine s5.mono fun k hk _ => ⟨by omega, fun hf => ?_⟩
    rcases h2 k hf with h | h
    · have := hFl k h; omega
    · omega
  · subst e
    rcases h2 k hk with h | h
    · have := hFl k h; omega
    · omega
  · rcases h2 k hk with h | h
    · exact .inl h
    · exact .inr (by omega)
  · exact ((Chg.of_below b3).trans (F1 := F) hc fun x hx => .inl hx).trans (F1 := fun k => k = g) ⟨rfl, rfl, rfl, by simp, fun k _ hn => setRow_other w4 _ k M hn⟩ fun x hx => .inr (by omega)
theorem buildPf0 (w : World) : (Instr.build 35 #[]).run Tryd.prog w = .ok (.agg (refC zref)) w := run_build w _ _ _ (by kernel_rfl)
theorem buildPf3 (p : Int) (e : BitVec 32) (dg : List (BitVec 8)) (h : dg.length = 32) (w : World) : (Instr.build 35 #[(0, .int .i64 p), (1, .int .u32 (V e)), (2, .agg (u8s dg).toArray)]).run Tryd.prog w = .ok (.agg (refC ⟨p, e, dg⟩)) w := by
  match dg, h with
  | [a0, a1, a2, a3, a4, a5, a6, a7, a8, a9, a10, a11, a12, a13, a14, a15, a16, a17, a18, a19, a20, a21, a22, a23, a24, a25, a26, a27, a28, a29, a30, a31], _ => exact run_build w _ _ _ (by kernel_rfl)
set_option maxRecDepth 100000 in
set_option maxHeartbeats 4000000 in
theorem phide_any {F : Foot} {bp : Value} {ts : List (List (BitVec 8))} (key : List (BitVec 8)) (lk : key.length = 32) (ep : BitVec 32) (place block : Int) (hbk : block ≤ 9223372036854775807) (page : List (BitVec 8)) (v : Value) (w x : World) (hr : BkO F bp w ts) (hn : ts.length < 100000) (hv : Sl w v page) (hp : page.length ≤ 1000000) (hT : Tabs x) (hC9 : CTabs x) (hxw : Below x.heap.size x w) (hF : ∀ k, F k → x.heap.size ≤ k) :
    Calls Tryd.prog 13 #[bp, .agg (u8s key).toArray, .int .u32 (V ep), .int .i64 place, .int .i64 block, v] w (HideEnd F bp w (hideR key ep place block page).1 (hideR key ep place block page).2.1 (hideR key ep place block page).2.2 (if (hideR key ep place block page).2.2 = 0 then ts ++ [(hideR key ep place block page).1] else ts)) := by
  have sl := fun wx (h : Below w.heap.size w wx) => pseal_any key lk ep block hbk page v wx (hv.below h) (by omega) (hC9.below (hxw.trans (h.mono hxw.size)) (Nat.le_refl _))
  have pl := fun wx => pisPlace_any place wx
  have flt := hr.lt
  obtain ⟨C, hC⟩ : ∃ C, C = (u8s key).toArray := ⟨_, rfl⟩
  have cs : C.size = 32 := by rw [hC]; simp [u8s_length, lk]
  rw [← hC] at sl ⊢
  obtain ⟨Z, hZ⟩ : ∃ Z, Z = refC zref := ⟨_, rfl⟩
  have zs : Z.size = 34 := by rw [hZ]; exact refC_size zref_wf
  have zo : Z.all (·.oneCell') = true := by rw [hZ]; exact refC_one _
  have hx : ∀ w, (zeroValue 35).run Tryd.prog w = .ok (.agg Z) w := by rw [hZ]; exact zeroRfP
  have bn : ∀ w, (Instr.build 35 #[]).run Tryd.prog w = .ok (.agg Z) w := by rw [hZ]; exact buildPf0
  have ak := (at_new w C 22).alloc (.cells Z 35)
  have az : At ((w.alloc (.cells C 22)).alloc (.cells Z 35)) (w.heap.size + 1) Z 35 := by
    have h := at_new (w.alloc (.cells C 22)) Z 35
    simpa using h
  have bz : Below w.heap.size w ((w.alloc (.cells C 22)).alloc (.cells Z 35)) := ((Below.refl _ _).alloc (Nat.le_refl _) _).alloc (by simp) _
  have wz : ((w.alloc (.cells C 22)).alloc (.cells Z 35)).heap.size = w.heap.size + 2 := by simp
  have BAD : Hid (∀ w' : World, Below w.heap.size w w' → HideEnd F bp w [] zref 1 ts (.returned (.tuple #[.slice none 0 0, .agg Z, .int .i64 1])) w') := Lib.hid fun w' hb => ⟨_, F, by rw [hZ], slB_nil _ _, hr.below hb, fun k hk => .inl hk, Chg.of_below hb⟩
  by_cases hpl : place < 0 ∨ 1 < place
  · have e1 : hideR key ep place block page = ([], zref, 1) := by simp [hideR, hpl]
    rw [e1]
    have e2 : decide (place < 0 ∨ 1 < place) = true := by simp [hpl]
    rw [e2] at pl
    have PL := Lib.hid pl; have ZS := Lib.hid zs; have ZO := Lib.hid zo; have BN := Lib.hid bn; have AZ := Lib.hid az; have BZ := Lib.hid bz
    clear sl pl cs zs zo bn ak az bz wz hC hZ hpl e1 e2 hr hn hv hp hT hC9 hxw hF lk flt hbk
    show Calls _ _ _ _ (HideEnd F bp w [] zref 1 (if (1 : Int) = 0 then _ else ts))
    rw [if_neg (by decide)]
    go_enter Tryd.func13, Tryd.ntmps13
    go_upto_region 1 with fail
    clear hx
    generalize (w.alloc (.cells C 22)).alloc (.cells Z 35) = w1 at *
    go_wp2_with fail
    refine (PL.out _).mono ?_
    rintro e w2 ⟨rfl, hb2⟩
    have AZ2 := Lib.hid (AZ.out.below hb2 AZ.out.lt); have B2 := Lib.hid (BZ.out.trans (hb2.mono BZ.out.size))
    clear hb2 AZ BZ PL
    go_wp2_with (first
      | (refine Mem.wpList_build (by rfl) 35 _ #[] (.agg Z) (by rfl) (by simp) BN.out ?_)
      | (refine wpList_store_all (by rfl) 35 _ _ (by rfl) (by rfl) (w.heap.size + 1) Z (by rfl) (by rfl) (by rw [ZS.out]; exact infoRfP) Z 35 AZ2.out (by rfl) ZO.out ?_))
    try simp only [Exit.inBlock, Exit.then]
    refine ret_tmp_row_tmp (by rfl) (w.heap.size + 1) 35 Z _ (.slice none 0 0) (.int .i64 1) (by rfl) (by rfl) (by rfl) (AZ2.out.row Z) Tryd.underlying35 (by rfl) (by rw [ZS.out]; exact infoRfP) ?_
    exact BAD.out _ (below_row B2.out (Nat.le_succ _) Z)
  · have e2 : decide (place < 0 ∨ 1 < place) = false := by simp [hpl]
    rw [e2] at pl
    by_cases hb : sealBad block page = true
    · have e1 : hideR key ep place block page = ([], zref, 1) := by simp [hideR, hb]
      have e3 : sealR key ep block page = ([], 1) := by simp [sealR, hb]
      rw [e3] at sl
      rw [e1]
      have PL := Lib.hid pl; have SL := Lib.hid sl; have CS := Lib.hid cs; have ZS := Lib.hid zs; have ZO := Lib.hid zo; have BN := Lib.hid bn; have AK := Lib.hid ak; have AZ := Lib.hid az; have BZ := Lib.hid bz
      clear sl pl cs zs zo bn ak az bz wz hC hZ hpl e1 e2 e3 hb hr hn hv hp hT hC9 hxw hF lk flt hbk
      show Calls _ _ _ _ (HideEnd F bp w [] zref 1 (if (1 : Int) = 0 then _ else ts))
      rw [if_neg (by decide)]
      go_enter Tryd.func13, Tryd.ntmps13
      go_upto_region 1 with fail
      clear hx
      generalize (w.alloc (.cells C 22)).alloc (.cells Z 35) = w1 at *
      go_wp2_with fail
      refine (PL.out _).mono ?_
      rintro e w2 ⟨rfl, hb2⟩
      have AK2 := Lib.hid (AK.out.below hb2 AK.out.lt); have AZ2 := Lib.hid (AZ.out.below hb2 AZ.out.lt); have B2 := Lib.hid (BZ.out.trans (hb2.mono BZ.out.size))
      clear hb2 AZ AK BZ PL
      go_wp2_with (refine wpList_load_all (by rfl) 22 _ (by rfl) w.heap.size (by rfl) _ Tryd.underlying22 (by rfl) C _ AK2.out (by rw [CS.out]; exact infoDg) ?_)
      refine (SL.out w2 B2.out).mono ?_
      rintro e w3 ⟨v3, rfl, _, hb3⟩
      have AZ3 := Lib.hid (AZ2.out.below hb3 AZ2.out.lt); have B3 := Lib.hid (B2.out.trans (hb3.mono B2.out.size))
      clear hb3 AZ2 AK2 B2 SL
      go_wp2_with (first
        | (refine Mem.wpList_build (by rfl) 35 _ #[] (.agg Z) (by rfl) (by simp) BN.out ?_)
        | (refine wpList_store_all (by rfl) 35 _ _ (by rfl) (by rfl) (w.heap.size + 1) Z (by rfl) (by rfl) (by rw [ZS.out]; exact infoRfP) Z 35 AZ3.out (by rfl) ZO.out ?_))
      try simp only [Exit.inBlock, Exit.then]
      refine ret_tmp_row_tmp (by rfl) (w.heap.size + 1) 35 Z _ (.slice none 0 0) (.int .i64 1) (by rfl) (by rfl) (by rfl) (AZ3.out.row Z) Tryd.underlying35 (by rfl) (by rw [ZS.out]; exact infoRfP) ?_
      exact BAD.out _ (below_row B3.out (Nat.le_succ _) Z)
    · clear BAD bn
      have e3 : sealR key ep block page = (sealL key ep block page, 0) := by simp [sealR, hb]
      rw [e3] at sl
      obtain ⟨L, hL⟩ : ∃ L, L = sealL key ep block page := ⟨_, rfl⟩
      rw [← hL] at sl
      have e1 : hideR key ep place block page = (L, ⟨place, ep, digestOf L⟩, 0) := by simp [hideR, hb, hpl, hL]
      rw [e1]
      have hln : L.length = 256 := by rw [hL, sealL_length]; simp [sealBad] at hb; omega
      have dg := fun (wx : World) (vx : Value) (h : Below w.heap.size w wx) (hs : SlB (fun k => w.heap.size ≤ k) wx vx L) => pdig_any L vx wx x (hr.below h) hn hs (fun k hk hf => by have := flt k hf; omega) (by omega) hT (hxw.trans (h.mono hxw.size)) hF
      obtain ⟨D, hD⟩ : ∃ D, D = (u8s (digestOf L)).toArray := ⟨_, rfl⟩
      have b3 : ∀ wx, (Instr.build 35 #[(0, .int .i64 place), (1, .int .u32 (V ep)), (2, .agg D)]).run Tryd.prog wx = .ok (.agg (refC ⟨place, ep, digestOf L⟩)) wx := fun wx => by rw [hD]; exact buildPf3 place ep (digestOf L) (digestOf_length _) wx
      rw [← hD] at dg
      obtain ⟨M, hM⟩ : ∃ M, M = refC ⟨place, ep, digestOf L⟩ := ⟨_, rfl⟩
      have ms : M.size = 34 := by rw [hM]; exact refC_size (wf_dig place ep L (by omega) (by omega))
      have mo : M.all (·.oneCell') = true := by rw [hM]; exact refC_one _
      rw [← hM] at b3
      have PL := Lib.hid pl; have SL := Lib.hid sl; have DG := Lib.hid dg; have B3 := Lib.hid b3; have HM := Lib.hid hM; have MS := Lib.hid ms; have MO := Lib.hid mo; have CS := Lib.hid cs; have ZS := Lib.hid zs; have AK := Lib.hid ak; have AZ := Lib.hid az; have BZ := Lib.hid bz; have WZ := Lib.hid wz; have FLT := Lib.hid flt; have LN := Lib.hid hln
      clear sl pl dg b3 hM ms mo cs zs zo ak az bz wz hC hZ hpl e1 e2 e3 hb hr hn hv hp hT hC9 hxw hF lk flt hD hln hbk hL
      show Calls _ _ _ _ (HideEnd F bp w L ⟨place, ep, digestOf L⟩ 0 (if (0 : Int) = 0 then ts ++ [L] else ts))
      rw [if_pos rfl]
      go_enter Tryd.func13, Tryd.ntmps13
      go_upto_region 1 with fail
      clear hx
      generalize (w.alloc (.cells C 22)).alloc (.cells Z 35) = w1 at *
      go_wp2_with fail
      refine (PL.out _).mono ?_
      rintro e w2 ⟨rfl, hb2⟩
      have AK2 := Lib.hid (AK.out.below hb2 AK.out.lt); have AZ2 := Lib.hid (AZ.out.below hb2 AZ.out.lt); have B2 := Lib.hid (BZ.out.trans (hb2.mono BZ.out.size)); have W2 : Hid (w.heap.size + 2 ≤ w2.heap.size) := Lib.hid (by rw [← WZ.out]; exact hb2.size)
      clear hb2 AZ AK BZ PL WZ
      go_wp2_with (refine wpList_load_all (by rfl) 22 _ (by rfl) w.heap.size (by rfl) _ Tryd.underlying22 (by rfl) C _ AK2.out (by rw [CS.out]; exact infoDg) ?_)
      refine (SL.out w2 B2.out).mono ?_
      rintro e w3 ⟨v3, rfl, hs3, hb3⟩
      have AZ3 := Lib.hid (AZ2.out.below hb3 AZ2.out.lt); have B4 := Lib.hid (B2.out.trans (hb3.mono B2.out.size)); have S3 : Hid (SlB (fun k => w.heap.size + 1 < k) w3 v3 L) := Lib.hid (hs3.mono fun k hk _ => by have := W2.out; omega); have W3 : Hid (w.heap.size + 2 ≤ w3.heap.size) := Lib.hid (Nat.le_trans W2.out hb3.size)
      clear hb3 hs3 AZ2 AK2 B2 SL W2
      go_wp2_with fail
      refine (DG.out w3 v3 B4.out (S3.out.mono fun k hk _ => by omega)).mono ?_
      rintro e w4 ⟨rfl, hk4⟩
      have AZ4 := Lib.hid (AZ3.out.chg hk4.2 fun hf => by have := FLT.out _ hf; omega)
      have HE := Lib.hid (hide_end FLT.out B4.out (Nat.le_succ _) (by have := W3.out; omega) S3.out hk4 M)
      clear hk4 AZ3 B4 S3 W3 DG
      go_wp2_with (first
        | (refine Mem.wpList_build (by rfl) 35 _ #[(0, .int .i64 place), (1, .int .u32 (V ep)), (2, .agg D)] (.agg M) (by rfl) (by simp [Act.eval]) B3.out ?_)
        | (refine wpList_store_all (by rfl) 35 _ _ (by rfl) (by rfl) (w.heap.size + 1) M (by rfl) (by rfl) (by rw [MS.out]; exact infoRfP) Z 35 AZ4.out (by rw [ZS.out, MS.out]) MO.out ?_))
      try simp only [Exit.inBlock, Exit.then]
      refine ret_tmp_row_tmp (by rfl) (w.heap.size + 1) 35 M _ v3 (.int .i64 0) (by rfl) (by rfl) (by rfl) (AZ4.out.row M) Tryd.underlying35 (by rfl) (by rw [MS.out]; exact infoRfP) ?_
      obtain ⟨F', h1, h2, h3, h4⟩ := HE.out
      exact ⟨_, F', by rw [HM.out], h1, h2, h3, h4⟩
end Sha
end Go.Proofs.YtmfgimkopddcgaaDoor
namespace Go.Proofs.YtmfgimkopddcgaaDoor
namespace Sha
open Go.RowKit Mem
set_option maxRecDepth 100000 in
set_option maxHeartbeats 4000000 in
theorem popen_any {F G : Foot} {bp : Value} {ts : List (List (BitVec 8))} (key : List (BitVec 8)) (lk : key.length = 32) (r : RefV) (hrw : r.Wf) (block : Int) (hbk : block ≤ 9223372036854775807) (l : List (BitVec 8)) (v : Value) (w x : World) (hr : BkO F bp w ts) (hn : ts.length < 100000) (hv : SlB G w v l) (hG : ∀ k, G k → ¬ F k) (hp : l.length ≤ 1000000) (hT : Tabs x) (hC9 : CTabs x) (hxw : Below x.heap.size x w) (hF : ∀ k, F k → x.heap.size ≤ k) :
    Calls Tryd.prog 17 #[bp, .agg (u8s key).toArray, .agg (refC r), .int .i64 block, v] w (OpenEnd F bp w (openR key r block l).1 (openR key r block l).2 (if sealBad block l then ts else ts ++ [l])) := by
  have ib := fun wx (h : Below w.heap.size w wx) => pisBlock_any block l v wx (hv.sl.below h)
  have flt := hr.lt
  have rs := refC_size hrw
  have r1 := ref1 r
  have rdg := ref_dgRow hrw
  obtain ⟨M, hM⟩ : ∃ M, M = refC r := ⟨_, rfl⟩
  rw [← hM] at rs r1 rdg ⊢
  obtain ⟨C, hC⟩ : ∃ C, C = (u8s key).toArray := ⟨_, rfl⟩
  have cs : C.size = 32 := by rw [hC]; simp [u8s_length, lk]
  have hCC := hC
  rw [← hC]
  have ak := (at_new w C 22).alloc (.cells M 35)
  have am : At ((w.alloc (.cells C 22)).alloc (.cells M 35)) (w.heap.size + 1) M 35 := by
    have h := at_new (w.alloc (.cells C 22)) M 35
    simpa using h
  have ba : Below w.heap.size w ((w.alloc (.cells C 22)).alloc (.cells M 35)) := ((Below.refl _ _).alloc (Nat.le_refl _) _).alloc (by simp) _
  have wz : ((w.alloc (.cells C 22)).alloc (.cells M 35)).heap.size = w.heap.size + 2 := by simp
  by_cases hb : sealBad block l = true
  · have e1 : openR key r block l = ([], 1) := by simp [openR, hb]
    rw [e1, if_pos hb]
    rw [hb] at ib
    have BAD : Hid (∀ w' : World, Below w.heap.size w w' → OpenEnd F bp w [] 1 ts (.returned (.tuple #[.slice none 0 0, .int .i64 1])) w') := Lib.hid fun w' hb => ⟨_, F, rfl, slB_nil _ _, hr.below hb, fun k hk => .inl hk, Chg.of_below hb⟩
    have IB := Lib.hid ib; have BA := Lib.hid ba
    clear ib ba ak am wz cs rs r1 rdg hM hC hCC hb e1 hr hn hv hG hp hT hC9 hxw hF lk flt hbk hrw
    go_enter Tryd.func17, Tryd.ntmps17
    go_wp2_with fail
    refine (IB.out _ BA.out).mono ?_
    rintro e w2 ⟨rfl, hb2⟩
    have B2 := Lib.hid (BA.out.trans (hb2.mono BA.out.size))
    clear hb2 BA IB
    go_wp2_with fail
    go_ret2
    exact BAD.out _ B2.out
  · have hb' : sealBad block l = false := by simpa using hb
    rw [if_neg hb]
    rw [hb'] at ib
    have h0 : 0 ≤ block := by simp [sealBad] at hb'; omega
    have dg := fun (wx : World) (h : Below w.heap.size w wx) => pdig_any l v wx x (hr.below h) hn (hv.keep h.size fun k _ hlt => h.block k hlt) hG hp hT (hxw.trans (h.mono hxw.size)) hF
    have hne := fun (x y : Operand) wx => neqDg (digestOf l) r.dg (digestOf_length l) hrw.dg x y wx
    obtain ⟨D, hD⟩ : ∃ D, D = (u8s (digestOf l)).toArray := ⟨_, rfl⟩
    obtain ⟨E, hE⟩ : ∃ E, E = (u8s r.dg).toArray := ⟨_, rfl⟩
    rw [← hD] at dg
    rw [← hD, ← hE] at hne
    rw [← hE] at rdg
    by_cases h3 : digestOf l = r.dg
    · have e1 : openR key r block l = (sealL key r.ep block l, 0) := by simp [openR, hb', h3]
      rw [e1]
      have hq : (!(digestOf l == r.dg)) = false := by simp [h3]
      rw [hq] at hne
      obtain ⟨ep, hep⟩ : ∃ ep, ep = r.ep := ⟨_, rfl⟩
      rw [← hep] at r1 ⊢
      have tn := fun wx (h : SlB G wx v l) (ht : CTabs wx) => pturn_any key lk ep block h0 hbk l v wx h.sl (by omega) ht
      rw [← hCC] at tn
      obtain ⟨L, hL⟩ : ∃ L, L = sealL key ep block l := ⟨_, rfl⟩
      rw [← hL] at tn ⊢
      have IB := Lib.hid ib; have BA := Lib.hid ba; have DG := Lib.hid dg; have NE := Lib.hid hne; have TN := Lib.hid tn; have RS := Lib.hid rs; have R1 := Lib.hid r1; have RDG := Lib.hid rdg; have CS := Lib.hid cs; have AK := Lib.hid ak; have AM := Lib.hid am; have WZ := Lib.hid wz; have FLT := Lib.hid flt; have HV := Lib.hid hv; have HG := Lib.hid hG; have HT := Lib.hid hC9; have HX := Lib.hid hxw; have HF := Lib.hid hF
      clear ib ba dg hne tn rs r1 rdg cs ak am wz flt hv hG hT hC9 hxw hF hM hC hCC hb hb' e1 hr hn hp lk hbk hrw hD hE hL h3 hq hep h0
      go_enter Tryd.func17, Tryd.ntmps17
      go_wp2_with fail
      obtain ⟨b1, hb1⟩ : ∃ b1, b1 = w.heap.size := ⟨_, rfl⟩
      refine (IB.out _ BA.out).mono ?_
      rintro e w2 ⟨rfl, hb2⟩
      have AK2 := Lib.hid (AK.out.below hb2 AK.out.lt); have AM2 := Lib.hid (AM.out.below hb2 AM.out.lt); have B2 := Lib.hid (BA.out.trans (hb2.mono BA.out.size)); have W2 : Hid (w.heap.size + 2 ≤ w2.heap.size) := Lib.hid (by rw [← WZ.out]; exact hb2.size)
      clear hb2 BA IB AK AM WZ
      rw [← hb1] at AK2 AM2
      go_wp2_with fail
      rw [← hb1]
      have M2 : Hid (At w2.drew (b1 + 1) M 35) := AM2
      refine wp_region_plan_in (fun y => At y (b1 + 1) M 35) (.take 0 (.take 1 (.take 3 (.take 4 (.sole 2 (.take 5 .done)))))) (by kernel_rfl) (by kernel_rfl) (by kernel_rfl) M2.out ?_
      (first | (refine plan_move _ _ (by rfl) (by rfl) (.inl (by rfl)) (by first | (with_reducible exact Mem.ev_const _ _) | (with_reducible exact Mem.ev_zero _ _ _) | (with_reducible (apply Eq.trans (Mem.ev_tmp _ _ _)); simp only [List.getD_cons_succ, List.getD_cons_zero] <;> rfl)) ?_) | (refine plan_move _ _ (by rfl) (by rfl) (.inr (by rfl)) (by first | (with_reducible exact Mem.ev_const _ _) | (with_reducible exact Mem.ev_zero _ _ _) | (with_reducible (apply Eq.trans (Mem.ev_tmp _ _ _)); simp only [List.getD_cons_succ, List.getD_cons_zero] <;> rfl)) ?_) | (refine plan_pick_t _ _ _ _ (by rfl) (by rfl) (by rfl) (by first | (with_reducible exact Mem.ev_const _ _) | (with_reducible exact Mem.ev_zero _ _ _) | (with_reducible (apply Eq.trans (Mem.ev_tmp _ _ _)); simp only [List.getD_cons_succ, List.getD_cons_zero] <;> rfl)) (by first | (with_reducible exact Mem.ev_const _ _) | (with_reducible exact Mem.ev_zero _ _ _) | (with_reducible (apply Eq.trans (Mem.ev_tmp _ _ _)); simp only [List.getD_cons_succ, List.getD_cons_zero] <;> rfl)) ?_) | (refine plan_pick_f _ _ _ _ (by rfl) (by rfl) (by rfl) (by first | (with_reducible exact Mem.ev_const _ _) | (with_reducible exact Mem.ev_zero _ _ _) | (with_reducible (apply Eq.trans (Mem.ev_tmp _ _ _)); simp only [List.getD_cons_succ, List.getD_cons_zero] <;> rfl)) (by first | (with_reducible exact Mem.ev_const _ _) | (with_reducible exact Mem.ev_zero _ _ _) | (with_reducible (apply Eq.trans (Mem.ev_tmp _ _ _)); simp only [List.getD_cons_succ, List.getD_cons_zero] <;> rfl)) ?_))
      (simp only [Act.put, List.setIfInBounds_toArray, List.set_cons_zero, List.set_cons_succ])
      (first | (refine plan_move _ _ (by rfl) (by rfl) (.inl (by rfl)) (by first | (with_reducible exact Mem.ev_const _ _) | (with_reducible exact Mem.ev_zero _ _ _) | (with_reducible (apply Eq.trans (Mem.ev_tmp _ _ _)); simp only [List.getD_cons_succ, List.getD_cons_zero] <;> rfl)) ?_) | (refine plan_move _ _ (by rfl) (by rfl) (.inr (by rfl)) (by first | (with_reducible exact Mem.ev_const _ _) | (with_reducible exact Mem.ev_zero _ _ _) | (with_reducible (apply Eq.trans (Mem.ev_tmp _ _ _)); simp only [List.getD_cons_succ, List.getD_cons_zero] <;> rfl)) ?_) | (refine plan_pick_t _ _ _ _ (by rfl) (by rfl) (by rfl) (by first | (with_reducible exact Mem.ev_const _ _) | (with_reducible exact Mem.ev_zero _ _ _) | (with_reducible (apply Eq.trans (Mem.ev_tmp _ _ _)); simp only [List.getD_cons_succ, List.getD_cons_zero] <;> rfl)) (by first | (with_reducible exact Mem.ev_const _ _) | (with_reducible exact Mem.ev_zero _ _ _) | (with_reducible (apply Eq.trans (Mem.ev_tmp _ _ _)); simp only [List.getD_cons_succ, List.getD_cons_zero] <;> rfl)) ?_) | (refine plan_pick_f _ _ _ _ (by rfl) (by rfl) (by rfl) (by first | (with_reducible exact Mem.ev_const _ _) | (with_reducible exact Mem.ev_zero _ _ _) | (with_reducible (apply Eq.trans (Mem.ev_tmp _ _ _)); simp only [List.getD_cons_succ, List.getD_cons_zero] <;> rfl)) (by first | (with_reducible exact Mem.ev_const _ _) | (with_reducible exact Mem.ev_zero _ _ _) | (with_reducible (apply Eq.trans (Mem.ev_tmp _ _ _)); simp only [List.getD_cons_succ, List.getD_cons_zero] <;> rfl)) ?_))
      (simp only [Act.put, List.setIfInBounds_toArray, List.set_cons_zero, List.set_cons_succ])
      refine plan_field 35 _ 2 (b1 + 1) 0 ⟨b1 + 1, 2, none⟩ (by rfl) (by rfl) (by rfl) (by first | (with_reducible exact Mem.ev_const _ _) | (with_reducible exact Mem.ev_zero _ _ _) | (with_reducible (apply Eq.trans (Mem.ev_tmp _ _ _)); simp only [List.getD_cons_succ, List.getD_cons_zero] <;> rfl)) (fun wx => by go_simp) ?_
      (simp only [Act.put, List.setIfInBounds_toArray, List.set_cons_zero, List.set_cons_succ])
      refine plan_row_at 22 _ (b1 + 1) 2 32 _ M E 35 (by rfl) (by rfl) (by rfl) (by first | (with_reducible exact Mem.ev_const _ _) | (with_reducible exact Mem.ev_zero _ _ _) | (with_reducible (apply Eq.trans (Mem.ev_tmp _ _ _)); simp only [List.getD_cons_succ, List.getD_cons_zero] <;> rfl)) (fun w' hw' => hw') Tryd.underlying22 (by rfl) infoDg (by rw [RS.out]; decide) RDG.out ?_
      (simp only [Act.put, List.setIfInBounds_toArray, List.set_cons_zero, List.set_cons_succ])
      refine plan_call 33 _ _ _ (by kernel_rfl) (by rfl) (by rfl) (by rfl) (by first | exact Mem.ev_none _ | (simp only [List.map_toArray, List.map_cons, List.map_nil, Mem.ev_tmp, List.getD_cons_succ, List.getD_cons_zero] <;> rfl)) ?_
      refine (DG.out w2.drew B2.out.drew).mono ?_
      rintro o3 w3 ⟨rfl, hk3⟩
      have nF : ∀ k, b1 ≤ k → ¬ F k := fun k hk hf => by have := FLT.out k hf; omega
      have AK3 := Lib.hid ((AK2.out.drew).chg hk3.2 (nF _ (Nat.le_refl _))); have AM3 := Lib.hid ((AM2.out.drew).chg hk3.2 (nF _ (Nat.le_succ _))); have K3 := Lib.hid hk3
      have HV3 : Hid (SlB G w3 v l) := Lib.hid ((HV.out.keep B2.out.size fun k _ hlt => B2.out.block k hlt).keep hk3.2.size fun k hg hlt => hk3.2.block k hlt (HG.out k hg))
      clear hk3 nF
      refine ⟨_, rfl, AM3.out, ?_⟩
      (simp only [Act.put, List.setIfInBounds_toArray, List.set_cons_zero, List.set_cons_succ])
      refine plan_bin _ _ _ _ _ _ _ (.bool false) (by rfl) (by rfl) (by rfl) (by first | (with_reducible exact Mem.ev_const _ _) | (with_reducible exact Mem.ev_zero _ _ _) | (with_reducible (apply Eq.trans (Mem.ev_tmp _ _ _)); simp only [List.getD_cons_succ, List.getD_cons_zero] <;> rfl)) (by first | (with_reducible exact Mem.ev_const _ _) | (with_reducible exact Mem.ev_zero _ _ _) | (with_reducible (apply Eq.trans (Mem.ev_tmp _ _ _)); simp only [List.getD_cons_succ, List.getD_cons_zero] <;> rfl)) (fun wx => NE.out _ _ wx) ?_
      (simp only [Act.put, List.setIfInBounds_toArray, List.set_cons_zero, List.set_cons_succ])
      refine plan_nil ?_
      have f1 : w3.cell? ⟨b1 + 1, 1, none⟩ = some (.int .u32 (V ep)) := (AM3.out.cell 1).trans R1.out
      rw [hb1] at f1
      have T3 : Hid (CTabs w3) := Lib.hid (HT.out.below (K3.out.2.below (HX.out.trans ((B2.out.drew).mono HX.out.size)) HF.out (Nat.le_trans HX.out.size B2.out.size)) (Nat.le_refl _))
      clear AK2 AM2 M2
      go_wp2_with (refine wpList_load_all (by rfl) 22 _ (by rfl) b1 (by rw [hb1]; rfl) _ Tryd.underlying22 (by rfl) C _ AK3.out (by rw [CS.out]; exact infoDg) ?_)
      refine (TN.out w3 HV3.out T3.out).mono ?_
      rintro e w4 ⟨v4, rfl, hs4, hb4⟩
      have S4 := Lib.hid hs4; have B4 := Lib.hid hb4
      clear hs4 hb4 f1
      go_wp2_with fail
      go_ret2
      obtain ⟨⟨F', h1, h2⟩, hc⟩ := K3.out
      have hz := B2.out.size
      have hz3 := hc.size
      refine ⟨_, F', rfl, S4.out.mono fun k hk _ => ⟨?_, fun hf => ?_⟩, h1.below B4.out, fun k hk => ?_, ?_⟩
      · exact Nat.le_trans hz (Nat.le_trans hz3 hk)
      · have := h1.lt k hf; omega
      · rcases h2 k hk with g | g
        · exact .inl g
        · exact .inr (Nat.le_trans hz g)
      · exact (((Chg.of_below B2.out).drew).trans (F1 := F) hc fun _ hx => .inl hx).trans (F1 := F) (Chg.of_below B4.out) fun _ hx => .inl hx
    · have e1 : openR key r block l = ([], 9) := by simp [openR, hb', h3]
      rw [e1]
      have hq : (!(digestOf l == r.dg)) = true := by simp [h3]
      rw [hq] at hne
      have IB := Lib.hid ib; have BA := Lib.hid ba; have DG := Lib.hid dg; have NE := Lib.hid hne; have RS := Lib.hid rs; have RDG := Lib.hid rdg; have AM := Lib.hid am; have FLT := Lib.hid flt
      clear ib ba dg hne rs r1 rdg cs ak am wz flt hv hG hT hC9 hxw hF hM hC hCC hb hb' e1 hr hn hp lk hbk hrw hD hE h3 hq h0
      go_enter Tryd.func17, Tryd.ntmps17
      go_wp2_with fail
      obtain ⟨b1, hb1⟩ : ∃ b1, b1 = w.heap.size := ⟨_, rfl⟩
      refine (IB.out _ BA.out).mono ?_
      rintro e w2 ⟨rfl, hb2⟩
      have AM2 := Lib.hid (AM.out.below hb2 AM.out.lt); have B2 := Lib.hid (BA.out.trans (hb2.mono BA.out.size))
      clear hb2 BA IB AM
      rw [← hb1] at AM2
      go_wp2_with fail
      rw [← hb1]
      have M2 : Hid (At w2.drew (b1 + 1) M 35) := AM2
      refine wp_region_plan_in (fun y => At y (b1 + 1) M 35) (.take 0 (.take 1 (.take 3 (.take 4 (.sole 2 (.take 5 .done)))))) (by kernel_rfl) (by kernel_rfl) (by kernel_rfl) M2.out ?_
      (first | (refine plan_move _ _ (by rfl) (by rfl) (.inl (by rfl)) (by first | (with_reducible exact Mem.ev_const _ _) | (with_reducible exact Mem.ev_zero _ _ _) | (with_reducible (apply Eq.trans (Mem.ev_tmp _ _ _)); simp only [List.getD_cons_succ, List.getD_cons_zero] <;> rfl)) ?_) | (refine plan_move _ _ (by rfl) (by rfl) (.inr (by rfl)) (by first | (with_reducible exact Mem.ev_const _ _) | (with_reducible exact Mem.ev_zero _ _ _) | (with_reducible (apply Eq.trans (Mem.ev_tmp _ _ _)); simp only [List.getD_cons_succ, List.getD_cons_zero] <;> rfl)) ?_) | (refine plan_pick_t _ _ _ _ (by rfl) (by rfl) (by rfl) (by first | (with_reducible exact Mem.ev_const _ _) | (with_reducible exact Mem.ev_zero _ _ _) | (with_reducible (apply Eq.trans (Mem.ev_tmp _ _ _)); simp only [List.getD_cons_succ, List.getD_cons_zero] <;> rfl)) (by first | (with_reducible exact Mem.ev_const _ _) | (with_reducible exact Mem.ev_zero _ _ _) | (with_reducible (apply Eq.trans (Mem.ev_tmp _ _ _)); simp only [List.getD_cons_succ, List.getD_cons_zero] <;> rfl)) ?_) | (refine plan_pick_f _ _ _ _ (by rfl) (by rfl) (by rfl) (by first | (with_reducible exact Mem.ev_const _ _) | (with_reducible exact Mem.ev_zero _ _ _) | (with_reducible (apply Eq.trans (Mem.ev_tmp _ _ _)); simp only [List.getD_cons_succ, List.getD_cons_zero] <;> rfl)) (by first | (with_reducible exact Mem.ev_const _ _) | (with_reducible exact Mem.ev_zero _ _ _) | (with_reducible (apply Eq.trans (Mem.ev_tmp _ _ _)); simp only [List.getD_cons_succ, List.getD_cons_zero] <;> rfl)) ?_))
      (simp only [Act.put, List.setIfInBounds_toArray, List.set_cons_zero, List.set_cons_succ])
      (first | (refine plan_move _ _ (by rfl) (by rfl) (.inl (by rfl)) (by first | (with_reducible exact Mem.ev_const _ _) | (with_reducible exact Mem.ev_zero _ _ _) | (with_reducible (apply Eq.trans (Mem.ev_tmp _ _ _)); simp only [List.getD_cons_succ, List.getD_cons_zero] <;> rfl)) ?_) | (refine plan_move _ _ (by rfl) (by rfl) (.inr (by rfl)) (by first | (with_reducible exact Mem.ev_const _ _) | (with_reducible exact Mem.ev_zero _ _ _) | (with_reducible (apply Eq.trans (Mem.ev_tmp _ _ _)); simp only [List.getD_cons_succ, List.getD_cons_zero] <;> rfl)) ?_) | (refine plan_pick_t _ _ _ _ (by rfl) (by rfl) (by rfl) (by first | (with_reducible exact Mem.ev_const _ _) | (with_reducible exact Mem.ev_zero _ _ _) | (with_reducible (apply Eq.trans (Mem.ev_tmp _ _ _)); simp only [List.getD_cons_succ, List.getD_cons_zero] <;> rfl)) (by first | (with_reducible exact Mem.ev_const _ _) | (with_reducible exact Mem.ev_zero _ _ _) | (with_reducible (apply Eq.trans (Mem.ev_tmp _ _ _)); simp only [List.getD_cons_succ, List.getD_cons_zero] <;> rfl)) ?_) | (refine plan_pick_f _ _ _ _ (by rfl) (by rfl) (by rfl) (by first | (with_reducible exact Mem.ev_const _ _) | (with_reducible exact Mem.ev_zero _ _ _) | (with_reducible (apply Eq.trans (Mem.ev_tmp _ _ _)); simp only [List.getD_cons_succ, List.getD_cons_zero] <;> rfl)) (by first | (with_reducible exact Mem.ev_const _ _) | (with_reducible exact Mem.ev_zero _ _ _) | (with_reducible (apply Eq.trans (Mem.ev_tmp _ _ _)); simp only [List.getD_cons_succ, List.getD_cons_zero] <;> rfl)) ?_))
      (simp only [Act.put, List.setIfInBounds_toArray, List.set_cons_zero, List.set_cons_succ])
      refine plan_field 35 _ 2 (b1 + 1) 0 ⟨b1 + 1, 2, none⟩ (by rfl) (by rfl) (by rfl) (by first | (with_reducible exact Mem.ev_const _ _) | (with_reducible exact Mem.ev_zero _ _ _) | (with_reducible (apply Eq.trans (Mem.ev_tmp _ _ _)); simp only [List.getD_cons_succ, List.getD_cons_zero] <;> rfl)) (fun wx => by go_simp) ?_
      (simp only [Act.put, List.setIfInBounds_toArray, List.set_cons_zero, List.set_cons_succ])
      refine plan_row_at 22 _ (b1 + 1) 2 32 _ M E 35 (by rfl) (by rfl) (by rfl) (by first | (with_reducible exact Mem.ev_const _ _) | (with_reducible exact Mem.ev_zero _ _ _) | (with_reducible (apply Eq.trans (Mem.ev_tmp _ _ _)); simp only [List.getD_cons_succ, List.getD_cons_zero] <;> rfl)) (fun w' hw' => hw') Tryd.underlying22 (by rfl) infoDg (by rw [RS.out]; decide) RDG.out ?_
      (simp only [Act.put, List.setIfInBounds_toArray, List.set_cons_zero, List.set_cons_succ])
      refine plan_call 33 _ _ _ (by kernel_rfl) (by rfl) (by rfl) (by rfl) (by first | exact Mem.ev_none _ | (simp only [List.map_toArray, List.map_cons, List.map_nil, Mem.ev_tmp, List.getD_cons_succ, List.getD_cons_zero] <;> rfl)) ?_
      refine (DG.out w2.drew B2.out.drew).mono ?_
      rintro o3 w3 ⟨rfl, hk3⟩
      have nF : ∀ k, b1 ≤ k → ¬ F k := fun k hk hf => by have := FLT.out k hf; omega
      have AM3 := Lib.hid ((AM2.out.drew).chg hk3.2 (nF _ (Nat.le_succ _))); have K3 := Lib.hid hk3
      clear hk3 nF
      refine ⟨_, rfl, AM3.out, ?_⟩
      (simp only [Act.put, List.setIfInBounds_toArray, List.set_cons_zero, List.set_cons_succ])
      refine plan_bin _ _ _ _ _ _ _ (.bool true) (by rfl) (by rfl) (by rfl) (by first | (with_reducible exact Mem.ev_const _ _) | (with_reducible exact Mem.ev_zero _ _ _) | (with_reducible (apply Eq.trans (Mem.ev_tmp _ _ _)); simp only [List.getD_cons_succ, List.getD_cons_zero] <;> rfl)) (by first | (with_reducible exact Mem.ev_const _ _) | (with_reducible exact Mem.ev_zero _ _ _) | (with_reducible (apply Eq.trans (Mem.ev_tmp _ _ _)); simp only [List.getD_cons_succ, List.getD_cons_zero] <;> rfl)) (fun wx => NE.out _ _ wx) ?_
      (simp only [Act.put, List.setIfInBounds_toArray, List.set_cons_zero, List.set_cons_succ])
      refine plan_nil ?_
      clear AM2 M2
      go_wp2_with fail
      go_ret2
      obtain ⟨⟨F', h1, h2⟩, hc⟩ := K3.out
      have hz := B2.out.size
      refine ⟨_, F', rfl, slB_nil _ _, h1, fun k hk => ?_, ?_⟩
      · rcases h2 k hk with g | g
        · exact .inl g
        · exact .inr (Nat.le_trans hz g)
      · exact ((Chg.of_below B2.out).drew).trans (F1 := F) hc fun _ hx => .inl hx
end Sha
end Go.Proofs.YtmfgimkopddcgaaDoor
namespace Go.Proofs.YtmfgimkopddcgaaDoor
namespace Sha
open Go.RowKit Mem
theorem nb1_int (z : Int) (m : Nat) (hm : (m : Int) = z % 18446744073709551616) : nbytes m 1 = [BitVec.ofInt 8 z] := by
  have e : nbyte m 0 = BitVec.ofInt 8 z := by
    apply BitVec.eq_of_toNat_eq
    unfold nbyte
    rw [BitVec.toNat_ofNat, BitVec.toNat_ofInt]
    omega
  simp [nbytes, List.range_succ, e]
theorem nb4_le4 (x : BitVec 32) : nbytes x.toNat 4 = le4 x := by
  have e : ∀ i, nbyte x.toNat i = wb x (8 * i) := fun i => by
    apply BitVec.eq_of_toNat_eq
    unfold nbyte wb
    rw [BitVec.toNat_ofNat, BitVec.toNat_setWidth, BitVec.toNat_ushiftRight, Nat.shiftRight_eq_div_pow, Nat.pow_mul]
  simp [nbytes, le4, List.range_succ, e]
theorem conv_iu64 (z : Int) (m : Nat) (hm : (m : Int) = z % 18446744073709551616) (w : World) : (convert 3 73 (.int .i64 z)).run Tryd.prog w = .ok (.int .u64 (m : Int)) w := by
  have h2 : IntKind.u64.wrap z = (m : Int) := by rw [IntKind.wrap_u64, hm]
  go_simp
theorem conv_u3264 (x : BitVec 32) (w : World) : (convert 23 73 (.int .u32 (V x))).run Tryd.prog w = .ok (.int .u64 ((x.toNat : Nat) : Int)) w := by
  have hx := x.isLt
  have h2 : IntKind.u64.wrap (V x) = ((x.toNat : Nat) : Int) := by
    rw [IntKind.wrap_u64]
    show (x.toNat : Int) % _ = _
    omega
  go_simp
set_option maxRecDepth 100000 in
set_option maxHeartbeats 4000000 in
theorem play9_any (r : RefV) (hr : r.Wf) (w : World) : Calls Tryd.prog 22 #[.agg (refC r)] w (RSEnd w (layRf r)) := by
  have r0 := ref0 r
  have r1 := ref1 r
  have an := at_new w (refC r) 35
  have bn : Below w.heap.size w (w.alloc (.cells (refC r) 35)) := (Below.refl _ _).alloc (Nat.le_refl _) _
  have sd := fun (wx : World) (g : Nat) (h : At wx g (refC r) 35) => sl_dg h hr
  have hdl := hr.dg
  obtain ⟨m, hm⟩ : ∃ m : Nat, (m : Int) = r.pl % 18446744073709551616 := ⟨(r.pl % 18446744073709551616).toNat, by omega⟩
  have hml : m < 18446744073709551616 := by omega
  have cv0 := fun wx => conv_iu64 r.pl m hm wx
  have cv1 := fun wx => conv_u3264 r.ep wx
  obtain ⟨M1, hM1⟩ : ∃ M, M = ([] : List (BitVec 8)) ++ nbytes m 1 := ⟨_, rfl⟩
  have ln1 : M1.length = 1 := by rw [hM1, List.length_append, nbytes_length]; rfl
  have nu1 : ∀ v wx, Sl wx v ([] : List (BitVec 8)) → Calls Tryd.prog 39 #[v, .int .u64 (m : Int), .int .i64 1] wx (SEnd wx M1) := fun v wx hs => by rw [hM1]; exact num1_any _ _ v wx hs (by decide) hml
  obtain ⟨M2, hM2⟩ : ∃ M, M = M1 ++ nbytes r.ep.toNat 4 := ⟨_, rfl⟩
  have ln2 : M2.length = 5 := by rw [hM2, List.length_append, nbytes_length, ln1]
  have nu2 : ∀ v wx, Sl wx v M1 → Calls Tryd.prog 39 #[v, .int .u64 ((r.ep.toNat : Nat) : Int), .int .i64 4] wx (SEnd wx M2) := fun v wx hs => by rw [hM2]; exact num4_any _ _ v wx hs (by rw [ln1]; decide) (by have := r.ep.isLt; omega)
  have hlay : M2 ++ r.dg = layRf r := by rw [hM2, hM1, nb1_int r.pl m hm, nb4_le4, layRf, List.nil_append]
  obtain ⟨M, hM⟩ : ∃ M, M = refC r := ⟨_, rfl⟩
  rw [← hM] at r0 r1 an bn sd ⊢
  have c0 : (w.alloc (.cells M 35)).cell? ⟨w.heap.size, 0, none⟩ = some (.int .i64 r.pl) := (an.cell 0).trans r0
  have AN := Lib.hid an; have BN := Lib.hid bn; have SD := Lib.hid sd; have DL := Lib.hid hdl; have CV0 := Lib.hid cv0; have CV1 := Lib.hid cv1; have LN1 := Lib.hid ln1; have NU1 := Lib.hid nu1; have LN2 := Lib.hid ln2; have NU2 := Lib.hid nu2; have HL := Lib.hid hlay; have R1 := Lib.hid r1
  clear r0 r1 an bn sd hdl cv0 cv1 ln1 nu1 ln2 nu2 hlay hM hM1 hM2 hm hml hr
  obtain ⟨pl, hpl⟩ : ∃ pl, pl = r.pl := ⟨_, rfl⟩
  rw [← hpl] at c0 CV0
  obtain ⟨ep, hep⟩ : ∃ ep, ep = r.ep := ⟨_, rfl⟩
  rw [← hep] at R1 CV1 NU2
  clear hpl hep
  obtain ⟨e4, he4⟩ : ∃ e4, e4 = ep.toNat := ⟨_, rfl⟩
  rw [← he4] at CV1 NU2
  clear he4
  go_enter Tryd.func22, Tryd.ntmps22
  go_upto_region 1 with fail
  obtain ⟨g0, hg0⟩ : ∃ g, g = w.heap.size := ⟨_, rfl⟩
  rw [← hg0] at AN c0 ⊢
  have HG := Lib.hid hg0
  clear hg0
  generalize w.alloc (.cells M 35) = w1 at *
  go_wp2_with (refine wpList_conv (by rfl) _ _ _ _ (.int .u64 (m : Int)) (by rfl) (by rfl) CV0.out ?_)
  refine (NU1.out _ _ (sl_none _)).mono ?_
  rintro e w3 ⟨g, rfl, ha, hg, hb⟩
  have B3 : Hid (Below w1.heap.size w1 w3) := Lib.hid hb
  have A3 := Lib.hid (AN.out.below hb AN.out.lt)
  have S3 := Lib.hid (at_sl ha rfl)
  rw [LN1.out]
  rw [LN1.out] at S3
  clear c0 ha hg hb
  have cc : w3.cell? ⟨g0, 1, none⟩ = some (.int .u32 (V ep)) := (A3.out.cell 1).trans R1.out
  go_wp2_with (refine wpList_conv (by rfl) _ _ _ _ (.int .u64 (e4 : Int)) (by rfl) (by rfl) CV1.out ?_)
  refine (NU2.out _ _ S3.out).mono ?_
  rintro e w4 ⟨g4, rfl, ha, hg, hb⟩
  have B4 : Hid (Below w1.heap.size w1 w4) := Lib.hid (B3.out.trans (hb.mono B3.out.size))
  have A4 := Lib.hid (A3.out.below hb A3.out.lt)
  have O4 : Hid (OwnB w4 w1.heap.size (.slice (some ⟨g4, 0, none⟩) 5 5) M2) := Lib.hid (by have h := own_fulls ha (Nat.le_trans B3.out.size hg) (by rw [LN2.out]; decide); rw [LN2.out] at h; exact h)
  rw [LN2.out]
  clear cc ha hg hb S3
  go_wp2_with (first
    | (refine wpList_slice_arr (by rfl) 22 _ (by rfl) 32 5 g0 2 (by rfl) Tryd.underlying22 infoB ?_)
    | (at_builtin; go_loud (refine wpList_append_bytes (by rfl) _ _ (by rfl) w1.heap.size (.slice (some ⟨g4, 0, none⟩) 5 5) (.slice (some ⟨g0, 2, none⟩) 32 32) M2 r.dg (by rfl) O4.out (by rfl) (SD.out w4 g0 A4.out) (by rw [LN2.out, DL.out]; decide) B4.out.size ?_); intro v9 w9 ho9 _ hb9; have O9 := Lib.hid ho9; have B9 := Lib.hid (B4.out.trans hb9); clear ho9 hb9))
  go_ret
  exact ⟨_, rfl, by rw [← HL.out]; exact O9.out.sl, BN.out.trans (B9.out.mono BN.out.size)⟩
end Sha
end Go.Proofs.YtmfgimkopddcgaaDoor
namespace Go.Proofs.YtmfgimkopddcgaaDoor
namespace Sha
open Go.RowKit Mem
/-- Bytes copied over 32 bytes 0: all of them, or none. -/
def padR (x : List (BitVec 8)) : List (BitVec 8) := if x = [] then List.replicate 32 0 else x
theorem padR_len (x : List (BitVec 8)) (h : x = [] ∨ x.length = 32) : (padR x).length = 32 := by
  unfold padR
  split
  · rfl
  · rcases h with h | h
    · rename_i h2; exact absurd h h2
    · exact h
theorem pref_set0 (r : RefV) (z : Int) : (refC r).setIfInBounds 0 (.int .i64 z) = refC { r with pl := z } := by simp [refC, refL]
theorem pref_set1 (r : RefV) (n : Nat) (hn : n ≤ 4294967295) : (refC r).setIfInBounds 1 (.int .u32 (n : Int)) = refC { r with ep := BitVec.ofNat 32 n } := by
  have e : V (BitVec.ofNat 32 n) = (n : Int) := by
    show ((BitVec.ofNat 32 n).toNat : Int) = _
    rw [BitVec.toNat_ofNat]; omega
  simp [refC, refL, e]
theorem pref_copy (r : RefV) (x : List (BitVec 8)) (h : r.dg = List.replicate 32 0) : (if x = [] then refC r else ((refC r).toList.take 2 ++ u8s x ++ (refC r).toList.drop (2 + 32)).toArray) = refC { r with dg := padR x } := by
  unfold padR
  split
  · rw [← h]
  · have e : (u8s r.dg).length = 32 := by rw [u8s_length, h]; rfl
    unfold refC refL
    congr 1
    rw [take_mid _ _ 2 rfl, List.drop_eq_nil_of_le (by rw [List.length_append, e]; exact Nat.le_refl _), List.append_nil]
theorem leN_lew (b : List (BitVec 8)) (h : 4 ≤ b.length) : leN (b.take 4) = (lew b 0).toNat := by
  match b, h with
  | x0 :: x1 :: x2 :: x3 :: t, _ =>
    have e := nb4_le4 (lew (x0 :: x1 :: x2 :: x3 :: t) 0)
    rw [le4_lew] at e
    obtain ⟨n, hn⟩ : ∃ n, n = (lew (x0 :: x1 :: x2 :: x3 :: t) 0).toNat := ⟨_, rfl⟩
    have hlt := (lew (x0 :: x1 :: x2 :: x3 :: t) 0).isLt
    rw [← hn] at e hlt ⊢
    show leN [x0, x1, x2, x3] = n
    rw [← e]
    simp only [nbytes, List.range_succ, List.range_zero, List.nil_append, List.map_cons, List.map_nil, List.cons_append, leN, nbyte, BitVec.toNat_ofNat]
    omega
/-- What is read of 37 bytes. -/
theorem parse_spec (b : List (BitVec 8)) (h : b.length = 37) (n1 n2 e1 e2 : Nat) (b1 b2 : List (BitVec 8)) (r3 : Rd3) (h1 : (n1, b1, e1) = rdNum b 0 1 1) (h2 : (n2, b2, e2) = rdNum b1 e1 4 4294967295) (h3 : r3 = rdTake b2 e2 32) :
    (r3.e = 0 ∧ parseRf b = (⟨(n1 : Int), BitVec.ofNat 32 n2, padR r3.x⟩, 0)) ∨ (r3.e = 3 ∧ parseRf b = (zref, 1)) := by
  match b, h with
  | x0 :: t, h =>
    have ht : t.length = 36 := by simpa using h
    rw [rdNum_ok _ 1 1 (by simp)] at h1
    have e1' : leN ((x0 :: t).take 1) = x0.toNat := by simp [leN]
    rw [e1'] at h1
    by_cases hx : 1 < x0.toNat
    · rw [if_pos hx] at h1
      have ha : b1 = t := congrArg (fun p : Nat × List (BitVec 8) × Nat => p.2.1) h1
      have hb : e1 = 3 := congrArg (fun p : Nat × List (BitVec 8) × Nat => p.2.2) h1
      rw [hb, rdNum_bad _ 3 4 _ (by decide)] at h2
      have hd : e2 = 3 := congrArg (fun p : Nat × List (BitVec 8) × Nat => p.2.2) h2
      rw [hd, rdTake_bad _ 3 32 (by decide)] at h3
      exact .inr ⟨by rw [h3], by unfold parseRf; rw [if_pos (.inr (by simpa using hx))]⟩
    · rw [if_neg hx] at h1
      have h0 : n1 = x0.toNat := congrArg (fun p : Nat × List (BitVec 8) × Nat => p.1) h1
      have ha : b1 = t := congrArg (fun p : Nat × List (BitVec 8) × Nat => p.2.1) h1
      have hb : e1 = 0 := congrArg (fun p : Nat × List (BitVec 8) × Nat => p.2.2) h1
      rw [hb, ha, rdNum_ok _ 4 4294967295 (by omega), leN_lew t (by omega), if_neg (by have := (lew t 0).isLt; omega)] at h2
      have k0 : n2 = (lew t 0).toNat := congrArg (fun p : Nat × List (BitVec 8) × Nat => p.1) h2
      have ka : b2 = t.drop 4 := congrArg (fun p : Nat × List (BitVec 8) × Nat => p.2.1) h2
      have kb : e2 = 0 := congrArg (fun p : Nat × List (BitVec 8) × Nat => p.2.2) h2
      rw [kb, ka, rdTake_ok _ 32 (by rw [List.length_drop]; omega)] at h3
      rw [h3]
      refine .inl ⟨rfl, ?_⟩
      unfold parseRf
      rw [if_neg (by simp only [List.getD_cons_zero, h]; omega)]
      unfold rfOf padR
      have e5 : (t.drop 4).take 32 = t.drop 4 := List.take_of_length_le (by rw [List.length_drop]; omega)
      simp only
      rw [e5, if_neg (fun e => by have := congrArg List.length e; rw [List.length_drop, ht, List.length_nil] at this; omega)]
      have e6 : BitVec.ofNat 32 (lew t 0).toNat = lew t 0 := by simp
      rw [h0, k0, e6]
      rfl
/-- Where Parse stands: the reader at br, the result, the reference that is filled at bx. -/
structure PInv9 (w : World) (br bx : Nat) (Z C : Array Value) (b : List (BitVec 8)) (e : Nat) (W : World) : Prop where
  r : RPk W br b e
  ar : At W w.heap.size Z 35
  ag : At W bx C 35
  l : Below w.heap.size w W
section
variable {w W W' : World} {br bx : Nat} {Z C C' : Array Value} {b b' : List (BitVec 8)} {e e' : Nat}
theorem PInv9.call (h : PInv9 w br bx Z C b e W) (h1 : w.heap.size < br) (h2 : br < bx) (hp : PkEnd RPk W br b' e' W') : PInv9 w br bx Z C b' e' W' :=
  ⟨hp.r, h.ar.but hp.o (by omega), h.ag.but hp.o (by omega), hp.k _ _ h.l (by omega)⟩
theorem PInv9.store (h : PInv9 w br bx Z C b e W) (h1 : w.heap.size < br) (h2 : br < bx) (ha : At W' bx C' 35) (ho : ∀ k, k ≠ bx → W'.heap[k]? = W.heap[k]?) (hk : ∀ B x, Below B x W → B ≤ bx → Below B x W') : PInv9 w br bx Z C' b e W' := by
  have hs : W.heap.size ≤ W'.heap.size := (hk _ _ (Below.refl bx W) (Nat.le_refl _)).size
  have hb : But bx W W' := ⟨hs, fun k _ hne => ho k hne⟩
  exact ⟨h.r.above hb h2, h.ar.but hb (by omega), ha, hk _ _ h.l (by omega)⟩
theorem PInv9.drew (h : PInv9 w br bx Z C b e W) : PInv9 w br bx Z C b e W.drew :=
  ⟨h.r.below (Below.refl _ _).drew, h.ar.below (Below.refl _ _).drew h.ar.lt, h.ag.below (Below.refl _ _).drew h.ag.lt, h.l.drew⟩
end
theorem conv_ui9 (x : Nat) (_h : x < 65536) (w : World) : (convert 73 3 (.int .u64 (x : Int))).run Tryd.prog w = .ok (.int .i64 (x : Int)) w := by
  have h2 : IntKind.i64.wrap (x : Int) = (x : Int) := by simp [IntKind.wrap, IntKind.bits, IntKind.signed]; omega
  go_simp
theorem conv_u329 (x : Nat) (_h : x < 4294967296) (w : World) : (convert 73 23 (.int .u64 (x : Int))).run Tryd.prog w = .ok (.int .u32 (x : Int)) w := by
  have h2 : IntKind.u32.wrap (x : Int) = (x : Int) := by rw [IntKind.wrap_u32]; omega
  go_simp
set_option maxRecDepth 100000 in
set_option maxHeartbeats 4000000 in
theorem pparse9_any (b : List (BitVec 8)) (v : Value) (w : World) (hv : Sl w v b) (_hb : b.length ≤ 1000) :
    Calls Tryd.prog 20 #[v] w fun e w' => e = .returned (.tuple #[.agg (refC (parseRf b).1), .int .i64 (parseRf b).2]) ∧ Below w.heap.size w w' := by
  obtain ⟨Z, hZ⟩ : ∃ Z, Z = refC zref := ⟨_, rfl⟩
  have zs : Z.size = 34 := by rw [hZ]; exact refC_size zref_wf
  have zo : Z.all (·.oneCell') = true := by rw [hZ]; exact refC_one _
  have hx : ∀ w, (zeroValue 35).run Tryd.prog w = .ok (.agg Z) w := by rw [hZ]; exact zeroRfP
  have bn : ∀ w, (Instr.build 35 #[]).run Tryd.prog w = .ok (.agg Z) w := by rw [hZ]; exact buildPf0
  have az := at_new w Z 35
  have bz : Below w.heap.size w (w.alloc (.cells Z 35)) := (Below.refl _ _).alloc (Nat.le_refl _) _
  have hv1 := hv.below bz
  by_cases h37 : b.length = 37
  · have hrd := fun wx h => read_any b v wx h (by omega)
    obtain ⟨r1, hr1⟩ : ∃ r, r = rdNum b 0 1 1 := ⟨_, rfl⟩
    have lt1 : r1.1 ≤ 1 := by rw [hr1]; exact rdNum_le _ _ _ _
    have ll1 : r1.2.1.length ≤ 8000 := by rw [hr1]; exact Nat.le_trans (rdNum_len _ _ _ _) (by omega)
    have nu1 : ∀ br wx, RPk wx br b 0 → Calls Tryd.prog 36 #[rp br, .int .i64 1, .int .u64 1] wx fun o w' => o = .returned (.int .u64 ((r1.1 : Nat) : Int)) ∧ PkEnd RPk wx br r1.2.1 r1.2.2 w' := fun br wx h => by rw [hr1]; exact pnumget_any b 0 1 1 br wx h (by omega) (by omega)
    obtain ⟨n1, b1, e1⟩ := r1
    simp only at lt1 ll1 nu1
    obtain ⟨r2, hr2⟩ : ∃ r, r = rdNum b1 e1 4 4294967295 := ⟨_, rfl⟩
    have lt2 : r2.1 ≤ 4294967295 := by rw [hr2]; exact rdNum_le _ _ _ _
    have ll2 : r2.2.1.length ≤ 8000 := by rw [hr2]; exact Nat.le_trans (rdNum_len _ _ _ _) ll1
    have nu2 : ∀ br wx, RPk wx br b1 e1 → Calls Tryd.prog 36 #[rp br, .int .i64 4, .int .u64 4294967295] wx fun o w' => o = .returned (.int .u64 ((r2.1 : Nat) : Int)) ∧ PkEnd RPk wx br r2.2.1 r2.2.2 w' := fun br wx h => by rw [hr2]; exact pnumget_any b1 e1 4 4294967295 br wx h ll1 (by omega)
    obtain ⟨n2, b2, e2⟩ := r2
    simp only at lt2 ll2 nu2
    obtain ⟨r3, hr3⟩ : ∃ r, r = rdTake b2 e2 32 := ⟨_, rfl⟩
    have lt3 : r3.x = [] ∨ r3.x.length = 32 := by rw [hr3]; exact rdTake_x _ _ _
    have nu3 : ∀ br wx, RPk wx br b2 e2 → Calls Tryd.prog 37 #[rp br, .int .i64 32] wx fun o w' => ∃ v, o = .returned v ∧ Sl w' v r3.x ∧ PkEnd RPk wx br r3.b r3.e w' := fun br wx h => by rw [hr3]; exact pbytes_any b2 e2 32 br wx h ll2 (by decide) (by decide)
    have hsp := parse_spec b h37 n1 n2 e1 e2 b1 b2 r3 hr1 hr2 hr3
    obtain ⟨C1, hC1⟩ : ∃ C, C = refC ⟨(n1 : Int), 0, List.replicate 32 0⟩ := ⟨_, rfl⟩
    obtain ⟨C2, hC2⟩ : ∃ C, C = refC ⟨(n1 : Int), BitVec.ofNat 32 n2, List.replicate 32 0⟩ := ⟨_, rfl⟩
    obtain ⟨C3, hC3⟩ : ∃ C, C = refC ⟨(n1 : Int), BitVec.ofNat 32 n2, padR r3.x⟩ := ⟨_, rfl⟩
    have q1 : Z.setIfInBounds 0 (.int .i64 (n1 : Int)) = C1 := by rw [hZ, hC1]; exact pref_set0 zref _
    have q2 : C1.setIfInBounds 1 (.int .u32 (n2 : Int)) = C2 := by rw [hC1, hC2]; exact pref_set1 _ n2 lt2
    have q3 : (if r3.x = [] then C2 else (C2.toList.take 2 ++ u8s r3.x ++ C2.toList.drop (2 + 32)).toArray) = C3 := by rw [hC2, hC3]; exact pref_copy _ r3.x rfl
    have s1 : C1.size = 34 := by rw [hC1]; exact refC_size ⟨by show _ ≤ (n1 : Int); omega, by show (n1 : Int) ≤ _; omega, by simp⟩
    have s2 : C2.size = 34 := by rw [hC2]; exact refC_size ⟨by show _ ≤ (n1 : Int); omega, by show (n1 : Int) ≤ _; omega, by simp⟩
    have s3 : C3.size = 34 := by rw [hC3]; exact refC_size ⟨by show _ ≤ (n1 : Int); omega, by show (n1 : Int) ≤ _; omega, padR_len _ lt3⟩
    have o3 : C3.all (·.oneCell') = true := by rw [hC3]; exact refC_one _
    obtain ⟨x3, b3, e3⟩ := r3
    simp only at lt3 nu3 q3 hsp
    obtain ⟨a0, c0, rfl⟩ := sl_inv hv
    rw [h37] at hv1 hrd ⊢
    have hsp2 : (e3 = 0 ∧ refC (parseRf b).1 = C3 ∧ (parseRf b).2 = 0) ∨ (e3 = 3 ∧ refC (parseRf b).1 = Z ∧ (parseRf b).2 = 1) := by
      rcases hsp with ⟨h1, h2⟩ | ⟨h1, h2⟩
      · exact .inl ⟨h1, by rw [h2, hC3], by rw [h2]⟩
      · exact .inr ⟨h1, by rw [h2, hZ], by rw [h2]⟩
    obtain ⟨PR, hPR⟩ : ∃ PR, PR = parseRf b := ⟨_, rfl⟩
    rw [← hPR] at hsp2 ⊢
    have SP := Lib.hid hsp2; have ZS := Lib.hid zs; have ZO := Lib.hid zo; have BN := Lib.hid bn; have AZ := Lib.hid az; have BZ := Lib.hid bz; have HV := Lib.hid hv1; have RD := Lib.hid hrd; have NU1 := Lib.hid nu1; have NU2 := Lib.hid nu2; have NU3 := Lib.hid nu3; have LT3 := Lib.hid lt3; have Q1 := Lib.hid q1; have Q2 := Lib.hid q2; have Q3 := Lib.hid q3; have S1 := Lib.hid s1; have S2 := Lib.hid s2; have S3 := Lib.hid s3; have O3 := Lib.hid o3
    clear hsp hsp2 zs zo bn az bz hv1 hv hrd nu1 nu2 nu3 lt3 q1 q2 q3 s1 s2 s3 o3 hC1 hC2 hC3 hZ hr1 hr2 hr3 ll1 ll2 _hb h37 hPR
    have pe := fun br wx (h : RPk wx br b3 e3) => perr0_any b3 e3 br wx h
    have PE := Lib.hid pe
    clear pe
    go_enter Tryd.func20, Tryd.ntmps20
    go_wp2_with fail
    refine (RD.out _ HV.out).mono ?_
    rintro e w2 ⟨br, rfl, hbr, hr2, hb2⟩
    have hbr1 : w.heap.size < br := by have h := hbr; simp at h; omega
    have hbx : br < w2.heap.size := hr2.lt
    have I0 : Hid (PInv9 w br w2.heap.size Z Z b 0 (w2.alloc (.cells Z 35))) := Lib.hid ⟨hr2.below ((Below.refl _ _).alloc (Nat.le_refl _) _), (AZ.out.below hb2 AZ.out.lt).alloc _, at_new w2 Z _, (BZ.out.trans (hb2.mono BZ.out.size)).alloc (Nat.le_trans BZ.out.size hb2.size) _⟩
    have HB1 := Lib.hid hbr1; have HB2 := Lib.hid hbx
    clear hbr hr2 hb2 RD HV AZ BZ hbr1 hbx
    go_wp2_with fail
    clear hx
    refine (NU1.out br _ I0.out.r).mono ?_
    rintro e w3 ⟨rfl, hp⟩
    have J1 := Lib.hid (I0.out.call HB1.out HB2.out hp)
    clear hp I0
    go_wp2_with (first
      | (refine wpList_conv (by rfl) _ _ _ _ (.int .i64 (n1 : Int)) (by rfl) (by rfl) (fun wx => conv_ui9 n1 (by omega) wx) ?_)
      | (refine Mem.wpList_store_one (by rfl) 3 _ _ (by rfl) (by rfl) w2.heap.size 0 (.int .i64 (n1 : Int)) (by rfl) (by rfl) (by rfl) (by kernel_rfl) Z 35 J1.out.ag (by rw [ZS.out]; decide) ?_; intro w4 ha ho hk; rw [Q1.out] at ha; have I1 := Lib.hid (J1.out.store HB1.out HB2.out ha ho hk); clear ha ho hk))
    refine (NU2.out br _ I1.out.r).mono ?_
    rintro e w5 ⟨rfl, hp⟩
    have J2 := Lib.hid (I1.out.call HB1.out HB2.out hp)
    clear hp I1 J1
    go_wp2_with (first
      | (refine wpList_conv (by rfl) _ _ _ _ (.int .u32 (n2 : Int)) (by rfl) (by rfl) (fun wx => conv_u329 n2 (by omega) wx) ?_)
      | (refine Mem.wpList_store_one (by rfl) 23 _ _ (by rfl) (by rfl) w2.heap.size 1 (.int .u32 (n2 : Int)) (by rfl) (by rfl) (by rfl) (by kernel_rfl) C1 35 J2.out.ag (by rw [S1.out]; decide) ?_; intro w6 ha ho hk; rw [Q2.out] at ha; have I2 := Lib.hid (J2.out.store HB1.out HB2.out ha ho hk); clear ha ho hk))
    refine wp_region_plan_in (fun _ => True) (.take 0 (.take 1 (.take 2 (.sole 3 (.sole 4 .done))))) (by kernel_rfl) (by kernel_rfl) (by kernel_rfl) trivial ?_
    refine plan_field 35 _ 2 w2.heap.size 0 ⟨w2.heap.size, 2, none⟩ (by rfl) (by rfl) (by rfl) (by first | (with_reducible exact Mem.ev_const _ _) | (with_reducible exact Mem.ev_zero _ _ _) | (with_reducible (apply Eq.trans (Mem.ev_tmp _ _ _)); simp only [List.getD_cons_succ, List.getD_cons_zero] <;> rfl)) (fun wx => by go_simp) ?_
    (simp only [Act.put, List.setIfInBounds_toArray, List.set_cons_zero, List.set_cons_succ])
    refine plan_cut 22 _ 32 5 w2.heap.size 2 (by rfl) (by rfl) (by rfl) (by first | (with_reducible exact Mem.ev_const _ _) | (with_reducible exact Mem.ev_zero _ _ _) | (with_reducible (apply Eq.trans (Mem.ev_tmp _ _ _)); simp only [List.getD_cons_succ, List.getD_cons_zero] <;> rfl)) Tryd.underlying22 infoB ?_
    (simp only [Act.put, List.setIfInBounds_toArray, List.set_cons_zero, List.set_cons_succ])
    (first | (refine plan_move _ _ (by rfl) (by rfl) (.inl (by rfl)) (by first | (with_reducible exact Mem.ev_const _ _) | (with_reducible exact Mem.ev_zero _ _ _) | (with_reducible (apply Eq.trans (Mem.ev_tmp _ _ _)); simp only [List.getD_cons_succ, List.getD_cons_zero] <;> rfl)) ?_) | (refine plan_move _ _ (by rfl) (by rfl) (.inr (by rfl)) (by first | (with_reducible exact Mem.ev_const _ _) | (with_reducible exact Mem.ev_zero _ _ _) | (with_reducible (apply Eq.trans (Mem.ev_tmp _ _ _)); simp only [List.getD_cons_succ, List.getD_cons_zero] <;> rfl)) ?_) | (refine plan_pick_t _ _ _ _ (by rfl) (by rfl) (by rfl) (by first | (with_reducible exact Mem.ev_const _ _) | (with_reducible exact Mem.ev_zero _ _ _) | (with_reducible (apply Eq.trans (Mem.ev_tmp _ _ _)); simp only [List.getD_cons_succ, List.getD_cons_zero] <;> rfl)) (by first | (with_reducible exact Mem.ev_const _ _) | (with_reducible exact Mem.ev_zero _ _ _) | (with_reducible (apply Eq.trans (Mem.ev_tmp _ _ _)); simp only [List.getD_cons_succ, List.getD_cons_zero] <;> rfl)) ?_) | (refine plan_pick_f _ _ _ _ (by rfl) (by rfl) (by rfl) (by first | (with_reducible exact Mem.ev_const _ _) | (with_reducible exact Mem.ev_zero _ _ _) | (with_reducible (apply Eq.trans (Mem.ev_tmp _ _ _)); simp only [List.getD_cons_succ, List.getD_cons_zero] <;> rfl)) (by first | (with_reducible exact Mem.ev_const _ _) | (with_reducible exact Mem.ev_zero _ _ _) | (with_reducible (apply Eq.trans (Mem.ev_tmp _ _ _)); simp only [List.getD_cons_succ, List.getD_cons_zero] <;> rfl)) ?_))
    (simp only [Act.put, List.setIfInBounds_toArray, List.set_cons_zero, List.set_cons_succ])
    refine plan_call 37 _ _ _ (by kernel_rfl) (by rfl) (by rfl) (by rfl) (by first | exact Mem.ev_none _ | (simp only [List.map_toArray, List.map_cons, List.map_nil, Mem.ev_tmp, List.getD_cons_succ, List.getD_cons_zero] <;> rfl)) ?_
    refine (NU3.out br _ I2.out.drew.r).mono ?_
    rintro e w7 ⟨vx, rfl, hsx, hp⟩
    have J3 := Lib.hid (I2.out.drew.call HB1.out HB2.out hp); have SX := Lib.hid hsx
    clear hp hsx I2 J2
    refine ⟨_, rfl, trivial, ?_⟩
    (simp only [Act.put, List.setIfInBounds_toArray, List.set_cons_zero, List.set_cons_succ])
    refine plan_copy_row _ _ (by rfl) (by rfl) (by rfl) w2.heap.size 2 C2 35 _ x3 (by first | (with_reducible exact Mem.ev_const _ _) | (with_reducible exact Mem.ev_zero _ _ _) | (with_reducible (apply Eq.trans (Mem.ev_tmp _ _ _)); simp only [List.getD_cons_succ, List.getD_cons_zero] <;> rfl)) (by first | (with_reducible exact Mem.ev_const _ _) | (with_reducible exact Mem.ev_zero _ _ _) | (with_reducible (apply Eq.trans (Mem.ev_tmp _ _ _)); simp only [List.getD_cons_succ, List.getD_cons_zero] <;> rfl)) SX.out LT3.out J3.out.ag (by rw [S2.out]; decide) C3 Q3.out ?_
    intro nv w8 ha ho hk
    have I3 := Lib.hid (J3.out.store HB1.out HB2.out ha ho hk)
    clear ha ho hk SX J3
    refine ⟨trivial, ?_⟩
    (simp only [Act.put, List.setIfInBounds_toArray, List.set_cons_zero, List.set_cons_succ])
    refine plan_nil ?_
    go_wp2_with fail
    refine (PE.out br _ I3.out.r).mono ?_
    rintro e w9 ⟨rfl, rfl⟩
    rcases SP.out with ⟨he, h1, h2⟩ | ⟨he, h1, h2⟩
    · subst he
      go_wp2_with (first
        | (refine wpList_load_all (by rfl) 35 _ (by rfl) w2.heap.size (by rfl) _ Tryd.underlying35 (by rfl) C3 _ I3.out.ag (by rw [S3.out]; exact infoRfP) ?_)
        | (refine wpList_store_all (by rfl) 35 _ _ (by rfl) (by rfl) w.heap.size C3 (by rfl) (by rfl) (by rw [S3.out]; exact infoRfP) Z 35 I3.out.ar (by rw [S3.out, ZS.out]) O3.out ?_))
      try simp only [Exit.inBlock, Exit.then]
      refine ret_row_tmp (by rfl) w.heap.size 35 C3 _ (.int .i64 0) (by rfl) (by rfl) (I3.out.ar.row C3) Tryd.underlying35 (by rfl) (by rw [S3.out]; exact infoRfP) ?_
      exact ⟨by rw [h1, h2], below_row I3.out.l (Nat.le_refl _) C3⟩
    · subst he
      go_wp2_with (first
        | (refine Mem.wpList_build (by rfl) 35 _ #[] (.agg Z) (by rfl) (by simp) BN.out ?_)
        | (refine wpList_store_all (by rfl) 35 _ _ (by rfl) (by rfl) w.heap.size Z (by rfl) (by rfl) (by rw [ZS.out]; exact infoRfP) Z 35 I3.out.ar (by rfl) ZO.out ?_))
      try simp only [Exit.inBlock, Exit.then]
      refine ret_row_tmp (by rfl) w.heap.size 35 Z _ (.int .i64 1) (by rfl) (by rfl) (I3.out.ar.row Z) Tryd.underlying35 (by rfl) (by rw [ZS.out]; exact infoRfP) ?_
      exact ⟨by rw [h1, h2], below_row I3.out.l (Nat.le_refl _) Z⟩
  · have e0 : parseRf b = (zref, 1) := by unfold parseRf; rw [if_pos (.inl h37)]
    rw [e0]
    obtain ⟨a0, c0, rfl⟩ := sl_inv hv
    obtain ⟨n, hn⟩ : ∃ n, n = b.length := ⟨_, rfl⟩
    rw [← hn] at h37 hv1 ⊢
    have h37' : ¬ (n : Int) = 37 := by omega
    simp only
    rw [← hZ]
    have ZS := Lib.hid zs; have ZO := Lib.hid zo; have BN := Lib.hid bn; have AZ := Lib.hid az; have BZ := Lib.hid bz
    clear hv hv1 zs zo bn az bz hZ hn e0 _hb h37
    go_enter Tryd.func20, Tryd.ntmps20
    go_upto_region 1 with fail
    clear hx
    generalize w.alloc (.cells Z 35) = w1 at *
    go_wp2_with (first
      | (refine Mem.wpList_build (by rfl) 35 _ #[] (.agg Z) (by rfl) (by simp) BN.out ?_)
      | (refine wpList_store_all (by rfl) 35 _ _ (by rfl) (by rfl) w.heap.size Z (by rfl) (by rfl) (by rw [ZS.out]; exact infoRfP) Z 35 AZ.out (by rfl) ZO.out ?_))
    try simp only [Exit.inBlock, Exit.then]
    refine ret_row_tmp (by rfl) w.heap.size 35 Z _ (.int .i64 1) (by rfl) (by rfl) (AZ.out.row Z) Tryd.underlying35 (by rfl) (by rw [ZS.out]; exact infoRfP) ?_
    exact ⟨rfl, below_row BZ.out (Nat.le_refl _) Z⟩
end Sha
end Go.Proofs.YtmfgimkopddcgaaDoor
namespace Go.Proofs.YtmfgimkopddcgaaDoor
namespace Sha
open Go.RowKit Mem
/-- An entry: the digest, the number, the clock. -/
abbrev DEnt := List (BitVec 8) × Int × Nat
def dgE (p : DEnt) : MapEntry := ⟨.agg (u8s p.1).toArray, .int .i64 p.2.1, p.2.2⟩
def MapD (w : World) (b : Nat) (es : List DEnt) : Prop := (∃ clock, w.heap[b]? = some (.map (es.map dgE).toArray clock)) ∧ ∀ p ∈ es, p.1.length = 32
theorem MapD.lt {w : World} {b : Nat} {es : List DEnt} (h : MapD w b es) : b < w.heap.size := by
  obtain ⟨⟨c, h⟩, _⟩ := h
  exact (Array.getElem?_eq_some_iff.1 h).1
theorem MapD.same {w w' : World} {b : Nat} {es : List DEnt} (h : MapD w b es) (hb : w'.heap[b]? = w.heap[b]?) : MapD w' b es := by
  obtain ⟨⟨c, h⟩, h2⟩ := h
  exact ⟨⟨c, hb.trans h⟩, h2⟩
theorem MapD.below {w w' : World} {b : Nat} {es : List DEnt} (h : MapD w b es) (hb : Below w.heap.size w w') : MapD w' b es := h.same (hb.block b h.lt)
theorem mapD_made (w : World) : MapD (w.alloc (.map #[] 0)) w.heap.size [] := ⟨⟨0, heap_alloc_new w _⟩, fun p hp => by cases hp⟩
/-- The first entry with that digest. -/
def seek (d : List (BitVec 8)) : List DEnt → Nat → Option (Nat × Value)
  | [], _ => none
  | p :: es, i => if d == p.1 then some (i, .int .i64 p.2.1) else seek d es (i + 1)
theorem seek_snoc (d : List (BitVec 8)) (x : DEnt) : ∀ (es : List DEnt) (i : Nat), seek d (es ++ [x]) i = match seek d es i with | some r => some r | none => if d == x.1 then some (i + es.length, .int .i64 x.2.1) else none
  | [], i => rfl
  | p :: es, i => by
    show (if d == p.1 then some (i, Value.int .i64 p.2.1) else seek d (es ++ [x]) (i + 1)) = match (if d == p.1 then some (i, Value.int .i64 p.2.1) else seek d es (i + 1)) with | some r => some r | none => _
    by_cases h : (d == p.1) = true
    · rw [if_pos h, if_pos h]
    · rw [if_neg h, if_neg h, seek_snoc d x es (i + 1), List.length_cons, show i + 1 + es.length = i + (es.length + 1) by omega]
theorem run_asking (d : List (BitVec 8)) (hd : d.length = 32) (w : World) : ∀ (es : List DEnt) (i : Nat), (∀ p ∈ es, p.1.length = 32) → (Instr.findAsking 22 (.agg (u8s d).toArray) (es.map dgE) i).run Tryd.prog w = .ok (seek d es i) w
  | [], i, _ => rfl
  | p :: es, i, h => by
    have e : (Op.equal 22 (.agg (u8s d).toArray) (.agg (u8s p.1).toArray)).run Tryd.prog w = .ok (d == p.1) w := eq32 9998 d p.1 hd (h p (List.mem_cons_self ..)) w
    have ih := run_asking d hd w es (i + 1) (fun q hq => h q (List.mem_cons_of_mem _ hq))
    show (Instr.findAsking 22 (.agg (u8s d).toArray) (dgE p :: es.map dgE) i).run Tryd.prog w = .ok (if d == p.1 then some (i, Value.int .i64 p.2.1) else seek d es (i + 1)) w
    unfold Instr.findAsking
    simp only [dgE, Sem.run_bind, e, Result.andThen_ok]
    by_cases g : (d == p.1) = true
    · rw [if_pos g, if_pos g]; rfl
    · rw [if_neg g, if_neg g]; exact ih
theorem run_find (d : List (BitVec 8)) (hd : d.length = 32) (w : World) (es : List DEnt) (h : ∀ p ∈ es, p.1.length = 32) : (Instr.findKey 22 (.agg (u8s d).toArray) (es.map dgE)).run Tryd.prog w = .ok (seek d es 0) w := by
  rw [run_findKey_eq w (by kernel_rfl)]
  exact run_asking d hd w es 0 h
theorem run_check32 (a0 a1 a2 a3 a4 a5 a6 a7 a8 a9 a10 a11 a12 a13 a14 a15 a16 a17 a18 a19 a20 a21 a22 a23 a24 a25 a26 a27 a28 a29 a30 a31 : BitVec 8) (em : Bool) (w : World) : (Instr.checkKey em 10000 22 (.agg (u8s [a0, a1, a2, a3, a4, a5, a6, a7, a8, a9, a10, a11, a12, a13, a14, a15, a16, a17, a18, a19, a20, a21, a22, a23, a24, a25, a26, a27, a28, a29, a30, a31]).toArray)).run Tryd.prog w = .ok () w := by kernel_rfl
theorem run_check (d : List (BitVec 8)) (hd : d.length = 32) (em : Bool) (w : World) : (Instr.checkKey em 10000 22 (.agg (u8s d).toArray)).run Tryd.prog w = .ok () w := by
  match d, hd with
  | [a0, a1, a2, a3, a4, a5, a6, a7, a8, a9, a10, a11, a12, a13, a14, a15, a16, a17, a18, a19, a20, a21, a22, a23, a24, a25, a26, a27, a28, a29, a30, a31], _ => exact run_check32 .. 
theorem mapD_und : Tryd.prog.underlying 99 = some (.map 22 3) := by kernel_rfl
theorem MapD.look {w : World} {b : Nat} {es : List DEnt} (h : MapD w b es) (d : List (BitVec 8)) (hd : d.length = 32) : (Instr.lookup 99 (.map (some b)) (.agg (u8s d).toArray) true).run Tryd.prog w = .ok (.tuple #[((seek d es 0).map (·.2)).getD (.int .i64 0), .bool (seek d es 0).isSome]) w := by
  obtain ⟨⟨c, hb⟩, hl⟩ := h
  have hz : (zeroValue 3).run Tryd.prog w = .ok (.int .i64 0) w := by kernel_rfl
  have hf := run_find d hd w es hl
  cases hs : seek d es 0 with
  | none =>
    rw [hs] at hf
    simp [Instr.lookup, run_underlying mapD_und, MapKept.run_getObj_map hb, run_check d hd, hf, hz, Result.andThen]
  | some r =>
    rw [hs] at hf
    simp [Instr.lookup, run_underlying mapD_und, MapKept.run_getObj_map hb, run_check d hd, hf, Result.andThen]
theorem MapD.put {w : World} {b : Nat} {es : List DEnt} (h : MapD w b es) (d : List (BitVec 8)) (hd : d.length = 32) (z : Int) (hno : seek d es 0 = none) :
    ∃ c w', (Instr.mapUpdate 99 (.map (some b)) (.agg (u8s d).toArray) (.int .i64 z)).run Tryd.prog w = .ok () w' ∧ MapD w' b (es ++ [(d, z, c)]) ∧ Chg (fun x => x = b) w w' ∧ w'.heap.size = w.heap.size := by
  have hlt := h.lt
  obtain ⟨⟨c, hb⟩, hl⟩ := h
  have hf := run_find d hd w es hl
  rw [hno] at hf
  refine ⟨c, ChangeMaps.setBlock w b (.map ((es.map dgE).toArray.push ⟨.agg (u8s d).toArray, .int .i64 z, c⟩) (c + 1)), ?_, ⟨⟨c + 1, ?_⟩, ?_⟩, ⟨rfl, rfl, rfl, by simp [ChangeMaps.setBlock], fun k _ hn => ?_⟩, by simp [ChangeMaps.setBlock]⟩
  · simp [Instr.mapUpdate, run_underlying mapD_und, MapKept.run_getObj_map hb, run_check d hd, hf, MapKept.run_setObj_map _ hb, Result.andThen, ChangeMaps.setBlock]
  · have e : ((es ++ [(d, z, c)]).map dgE).toArray = (es.map dgE).toArray.push ⟨.agg (u8s d).toArray, .int .i64 z, c⟩ := by simp [dgE]
    rw [e]
    simp [ChangeMaps.setBlock, hlt]
  · intro p hp
    rcases List.mem_append.1 hp with hp | hp
    · exact hl p hp
    · rw [List.mem_singleton.1 hp]; exact hd
  · have : b ≠ k := fun e => hn e.symm
    simp [ChangeMaps.setBlock, this]
section
variable {ops : Array Oper} {rest : List Oper} {o : Oper} {a : Act} {w : World} {Q : Exit → Act → World → Prop}
theorem wpList_mapD_look (hw : Region.wanted o (yielded ops a.tmps) = true) (m x : Operand) (hop : o.op = .lookup 99 m x true) (b : Nat) (es : List DEnt) (d : List (BitVec 8)) (hd : d.length = 32)
    (hm : a.eval m = .map (some b)) (D : Array Value) (hD : D = (u8s d).toArray) (hx : a.eval x = .agg D) (hs : MapD w b es) (v : Value) (ok : Bool) (hv : ((seek d es 0).map (·.2)).getD (.int .i64 0) = v) (hok : (seek d es 0).isSome = ok)
    (h : wpList Tryd.prog ops Q rest (a.put o.dst (.tuple #[v, .bool ok])) w) : wpList Tryd.prog ops Q (o :: rest) a w := by
  subst hD
  unfold wpList
  rw [if_pos hw]
  left
  unfold Oper.wp
  have : (execOp a.eval o).run Tryd.prog w = .ok (.value (.tuple #[v, .bool ok])) w := by
    have := hs.look d hd
    rw [hv, hok] at this
    simp [execOp, hop, hm, hx, this, Result.andThen]
  rw [this]
  exact h
theorem wpList_mapD_put (hw : Region.wanted o (yielded ops a.tmps) = true) (m x y : Operand) (hop : o.op = .mapUpdate 99 m x y) (b : Nat) (es : List DEnt) (d : List (BitVec 8)) (hd : d.length = 32) (z : Int)
    (hm : a.eval m = .map (some b)) (D : Array Value) (hD : D = (u8s d).toArray) (hx : a.eval x = .agg D) (hy : a.eval y = .int .i64 z) (hs : MapD w b es) (hno : seek d es 0 = none)
    (h : ∀ c w', MapD w' b (es ++ [(d, z, c)]) → Chg (fun x => x = b) w w' → w'.heap.size = w.heap.size → wpList Tryd.prog ops Q rest (a.put o.dst undef) w') : wpList Tryd.prog ops Q (o :: rest) a w := by
  subst hD
  unfold wpList
  rw [if_pos hw]
  left
  unfold Oper.wp
  obtain ⟨c, w', hrun, h1, h2, h3⟩ := hs.put d hd z hno
  have : (execOp a.eval o).run Tryd.prog w = .ok .skip w' := by
    simp [execOp, hop, hm, hx, hy, hrun, Result.andThen]
  rw [this]
  exact h c w' h1 h2 h3
end
end Sha
end Go.Proofs.YtmfgimkopddcgaaDoor
namespace Go.Proofs.YtmfgimkopddcgaaDoor
namespace Sha
open Go.RowKit Mem
/-- The entries tell, of each digest, the first of j texts that has it. -/
def DInv9 (ps : List (List (BitVec 8))) (es : List DEnt) (j : Nat) : Prop := ∀ d : List (BitVec 8), d.length = 32 →
  (∃ q i : Nat, seek d es 0 = some (q, .int .i64 (i : Int)) ∧ i < j ∧ digestOf (ps.getD i []) = d ∧ ∀ i' < i, digestOf (ps.getD i' []) ≠ d) ∨ (seek d es 0 = none ∧ ∀ i < j, digestOf (ps.getD i []) ≠ d)
theorem dinv_zero (ps : List (List (BitVec 8))) : DInv9 ps [] 0 := fun _ _ => .inr ⟨rfl, fun _ h => absurd h (Nat.not_lt_zero _)⟩
theorem dinv_add {ps : List (List (BitVec 8))} {es : List DEnt} {j c : Nat} (e : List (BitVec 8)) (hE : digestOf (ps.getD j []) = e) (h : DInv9 ps es j) (hno : ∀ i < j, digestOf (ps.getD i []) ≠ e) : DInv9 ps (es ++ [(e, (j : Int), c)]) (j + 1) := fun d hd => by
  rw [seek_snoc]
  rcases h d hd with ⟨q, i, h1, h2, h3, h4⟩ | ⟨h1, h2⟩
  · rw [h1]; exact .inl ⟨q, i, rfl, by omega, h3, h4⟩
  · rw [h1]
    by_cases hdj : d = e
    · rw [hdj]
      exact .inl ⟨0 + es.length, j, by simp, by omega, hE, hno⟩
    · have : (d == e) = false := by simpa using hdj
      refine .inr ⟨by simp [this], fun i hi => ?_⟩
      by_cases hij : i = j
      · rw [hij, hE]; exact fun h => hdj h.symm
      · exact h2 i (by omega)
theorem dinv_new {ps : List (List (BitVec 8))} {es : List DEnt} {j c : Nat} (h : DInv9 ps es j) (hno : ∀ i < j, digestOf (ps.getD i []) ≠ digestOf (ps.getD j [])) : DInv9 ps (es ++ [(digestOf (ps.getD j []), (j : Int), c)]) (j + 1) := dinv_add _ rfl h hno
theorem dinv_old {ps : List (List (BitVec 8))} {es : List DEnt} {j i : Nat} (h : DInv9 ps es j) (hi : i < j) (he : digestOf (ps.getD i []) = digestOf (ps.getD j [])) : DInv9 ps es (j + 1) := fun d hd => by
  rcases h d hd with ⟨q, i, h1, h2, h3, h4⟩ | ⟨h1, h2⟩
  · exact .inl ⟨q, i, h1, by omega, h3, h4⟩
  · refine .inr ⟨h1, fun k hk => ?_⟩
    by_cases hkj : k = j
    · subst hkj; rw [← he]; exact h2 i hi
    · exact h2 k (by omega)
def NoBad (ps : List (List (BitVec 8))) (j : Nat) : Prop := ∀ k < j, ∀ i < k, ¬ BadP ps i k
theorem nobad_new {ps : List (List (BitVec 8))} {j : Nat} (h : NoBad ps j) (hno : ∀ i < j, digestOf (ps.getD i []) ≠ digestOf (ps.getD j [])) : NoBad ps (j + 1) := fun k hk i hi hb => by
  by_cases hkj : k = j
  · subst hkj; exact hno i hi hb.1
  · exact h k (by omega) i hi hb
theorem nobad_old {ps : List (List (BitVec 8))} {j i : Nat} (h : NoBad ps j) (hi : i < j) (he : digestOf (ps.getD i []) = digestOf (ps.getD j [])) (hf : ∀ i' < i, digestOf (ps.getD i' []) ≠ digestOf (ps.getD j [])) (hs : ps.getD i [] = ps.getD j []) : NoBad ps (j + 1) := fun k hk i' hi' hb => by
  by_cases hkj : k = j
  · subst hkj
    rcases Nat.lt_trichotomy i' i with g | g | g
    · exact hf i' g hb.1
    · subst g; exact hb.2 hs
    · refine h i' hi' i g ⟨by rw [he, hb.1], fun e => hb.2 ?_⟩
      rw [← e, hs]
  · exact h k (by omega) i' hi' hb
theorem clash_yes {ps : List (List (BitVec 8))} {j i : Nat} (h : NoBad ps j) (hj : j < ps.length) (hi : i < j) (he : digestOf (ps.getD i []) = digestOf (ps.getD j [])) (hf : ∀ i' < i, digestOf (ps.getD i' []) ≠ digestOf (ps.getD j [])) (hs : ps.getD i [] ≠ ps.getD j []) : IsClash ps (i : Int) (j : Int) true :=
  .inl ⟨rfl, i, j, rfl, rfl, hi, hj, ⟨he, hs⟩, h, fun i' hi' hb => hf i' hi' hb.1⟩
theorem clash_no {ps : List (List (BitVec 8))} (h : NoBad ps ps.length) : IsClash ps 0 0 false := .inr ⟨rfl, rfl, rfl, h⟩
set_option maxRecDepth 100000 in
set_option maxHeartbeats 4000000 in
/-- The literal: a text's digest. -/
theorem pdlit_any (l : List (BitVec 8)) (v : Value) (w : World) (hv : Sl w v l) (hp : l.length ≤ 1048576) (hT : Tabs w) :
    Calls Tryd.prog 42 #[v] w fun e w' => e = .returned (.agg (u8s (digestOf l)).toArray) ∧ Below w.heap.size w w' := by
  obtain ⟨Z, hZ⟩ : ∃ Z, Z = (u8s (List.replicate 32 (0 : BitVec 8))).toArray := ⟨_, rfl⟩
  have zs : Z.size = 32 := by rw [hZ]; simp [u8s_length]
  have hx : ∀ w, (zeroValue 22).run Tryd.prog w = .ok (.agg Z) w := by rw [hZ]; exact fun _ => by kernel_rfl
  obtain ⟨G, hG⟩ : ∃ G, G = (u8s (digestOf l)).toArray := ⟨_, rfl⟩
  have gs : G.size = 32 := by rw [hG]; simp [u8s_length, digestOf_length]
  have go : G.all (·.oneCell') = true := by rw [hG]; exact u8s_one _
  have hsum := fun (wx : World) (vx : Value) (hx : Sls wx vx [l]) (ht : Tabs wx) => sumAll_any [l] vx wx (by simp; omega) (by simp) hx ht
  rw [show [l].flatten = l by simp, ← hG] at hsum
  have az := at_new w Z 22
  have bz : Below w.heap.size w (w.alloc (.cells Z 22)) := (Below.refl _ _).alloc (Nat.le_refl _) _
  have hsl := sls_lit1 (hv.below bz)
  rw [← hG]
  have bl : Below w.heap.size w ((w.alloc (.cells Z 22)).alloc (.cells #[v] 26)) := bz.alloc (by simp) _
  have az2 := az.alloc (.cells #[v] 26)
  have ht2 := hT.below bl (Nat.le_refl _)
  obtain ⟨a0, c0, rfl⟩ := sl_inv hv
  obtain ⟨n, hn⟩ : ∃ n, n = l.length := ⟨_, rfl⟩
  rw [← hn] at hsl bl az2 ht2 ⊢
  have ZS := Lib.hid zs; have GS := Lib.hid gs; have GO := Lib.hid go; have SUM := Lib.hid hsum; have SLS := Lib.hid hsl; have BL := Lib.hid bl; have AZ := Lib.hid az2; have TT := Lib.hid ht2
  clear zs gs go hsum hsl bl az2 ht2 az bz hv hp hT hZ hG hn
  go_enter Tryd.func42, Tryd.ntmps42
  go_wp2_with fail
  clear hx
  have hs2 : (w.alloc (.cells Z 22)).heap.size = w.heap.size + 1 := by simp
  rw [hs2] at SLS
  refine (SUM.out _ _ SLS.out TT.out).mono ?_
  rintro e w3 ⟨rfl, hb3⟩
  have A3 := Lib.hid (AZ.out.below hb3 AZ.out.lt); have B3 := Lib.hid (BL.out.trans (hb3.mono BL.out.size))
  clear hb3 SLS hs2 BL AZ TT SUM
  go_wp2_with (refine wpList_store_all (by rfl) 22 _ _ (by rfl) (by rfl) w.heap.size G (by rfl) (by rfl) (by rw [GS.out]; exact infoDg) Z _ A3.out (by rw [ZS.out, GS.out]) GO.out ?_)
  try simp only [Exit.inBlock, Exit.then]
  refine ret_row (by rfl) w.heap.size 22 G _ (by rfl) (A3.out.row G) Tryd.underlying22 (by rfl) (by rw [GS.out]; exact infoDg) ?_
  exact ⟨rfl, below_row B3.out (Nat.le_refl _) G⟩
set_option maxRecDepth 100000 in
set_option maxHeartbeats 4000000 in
theorem pclashIn_any (ps : List (List (BitVec 8))) (v : Value) (w : World) (hv : Sls w v ps) (hn : ps.length ≤ 1000) (hl : ∀ p ∈ ps, p.length ≤ 1000000) (hT : Tabs w) :
    Calls Tryd.prog 41 #[.func (.func 42) #[] #[], v] w (ClashEnd ps w) := by
  have hv0 := hv
  obtain ⟨a0, cap0, rfl, _, _⟩ := hv0
  obtain ⟨n, hnn⟩ : ∃ n, n = ps.length := ⟨_, rfl⟩
  obtain ⟨Z, hZ⟩ : ∃ Z, Z = (u8s (List.replicate 32 (0 : BitVec 8))).toArray := ⟨_, rfl⟩
  have zs : Z.size = 32 := by rw [hZ]; simp [u8s_length]
  have hx : ∀ w, (zeroValue 22).run Tryd.prog w = .ok (.agg Z) w := by rw [hZ]; exact fun _ => by kernel_rfl
  rw [← hnn] at hv hn ⊢
  have HV := Lib.hid hv; have HL := Lib.hid hl; have HN := Lib.hid hnn; have HT := Lib.hid hT; have ZS := Lib.hid zs
  have M0 := Lib.hid (mapD_made w)
  have B0 : Hid (Below w.heap.size w (w.alloc (.map #[] 0))) := Lib.hid ((Below.refl _ _).alloc (Nat.le_refl _) _)
  obtain ⟨w1, hw1⟩ : ∃ w1, w1 = w.alloc (.map #[] 0) := ⟨_, rfl⟩
  rw [← hw1] at M0 B0
  clear hv hl hnn hT zs hZ
  go_enter Tryd.func41, Tryd.ntmps41
  go_wp2_with (refine wpList_map_made (by rfl) _ (by rfl) ?_)
  rw [← hw1]
  clear hw1
  go_loopw [16] (fun i wr => ∃ j : Nat, j ≤ n ∧ i = .int .i64 j ∧ ∃ es, MapD wr w.heap.size es ∧ DInv9 ps es j ∧ NoBad ps j ∧ Below w.heap.size w wr) (fun i _ => n - (intOf i).toNat)
  case atStart => exact ⟨0, by omega, rfl, [], M0.out, dinv_zero ps, fun k hk => absurd hk (Nat.not_lt_zero _), B0.out⟩
  case round =>
    clear M0 B0
    obtain ⟨j, hj, rfl, es, hm, hd, hno, hb⟩ := hrel
    by_cases hlt : j < n
    · have hlt' : (j : Int) < (n : Int) := by omega
      have hps : j < ps.length := by rw [← HN.out]; exact hlt
      obtain ⟨pb, po, vi, rfl, hpb, hcell, hsl⟩ := sls_at (HV.out.below hb) hps
      have hpm : ps.getD j [] ∈ ps := by rw [List.getD_eq_getElem?_getD, List.getElem?_eq_getElem hps]; exact List.getElem_mem _
      have hpl := HL.out _ hpm
      have hdl := hd (digestOf (ps.getD j [])) (digestOf_length _)
      obtain ⟨a1, c1, rfl⟩ := sl_inv hsl
      obtain ⟨m, hmm⟩ : ∃ m, m = (ps.getD j []).length := ⟨_, rfl⟩
      have hli := fun wx (h : Sl wx (.slice a1 (ps.getD j []).length c1) (ps.getD j [])) (ht : Tabs wx) => pdlit_any (ps.getD j []) _ wx h (by omega) ht
      rw [← hmm] at hcell hsl hli
      obtain ⟨D, hD⟩ : ∃ D, D = (u8s (digestOf (ps.getD j []))).toArray := ⟨_, rfl⟩
      have hDs : D.size = 32 := by rw [hD]; simp [u8s_length, digestOf_length]
      have hDo : D.all (·.oneCell') = true := by rw [hD]; exact u8s_one _
      rw [← hD] at hli
      have LI := Lib.hid hli; have SL := Lib.hid hsl; have MM := Lib.hid hm; have DD := Lib.hid hd; have NO := Lib.hid hno; have BB := Lib.hid hb; have DS := Lib.hid hDs; have DO := Lib.hid hDo; have HD := Lib.hid hD; have PB := Lib.hid hpb; have PS := Lib.hid hps
      have T1 : Hid (Tabs wr) := Lib.hid (HT.out.below hb (Nat.le_refl _))
      clear hli hsl hm hd hno hb hDs hDo hD hpb hps hpm hpl hmm
      go_wp2_with fail
      refine (LI.out wr SL.out T1.out).mono ?_
      rintro e w2 ⟨rfl, hb2⟩
      have M2 := Lib.hid (MM.out.below hb2); have B2 := Lib.hid (BB.out.trans (hb2.mono BB.out.size)); have S2 := Lib.hid (SL.out.below hb2)
      have A3 := Lib.hid (at_new w2 D 22)
      have L3 : Hid (Below w2.heap.size w2 (w2.alloc (.cells D 22))) := Lib.hid ((Below.refl _ _).alloc (Nat.le_refl _) _)
      have M3 := Lib.hid (M2.out.below L3.out); have B3 := Lib.hid (B2.out.trans (L3.out.mono B2.out.size)); have S3 := Lib.hid (S2.out.below L3.out)
      clear hb2 MM BB SL T1 LI M2 S2 B2 L3
      rcases hdl with ⟨q, i, k1, k2, k3, k4⟩ | ⟨k1, k2⟩
      · obtain ⟨pb', po', v2, ea, _, hc2, hs2⟩ := sls_at (HV.out.below B3.out) (i := i) (by have := PS.out; omega)
        have e4 : pb = pb' ∧ po = po' := by simpa using ea
        obtain ⟨rfl, rfl⟩ := e4
        clear ea
        obtain ⟨a2, c2, rfl⟩ := sl_inv hs2
        obtain ⟨m2, hm2⟩ : ∃ m2, m2 = (ps.getD i []).length := ⟨_, rfl⟩
        rw [← hm2] at hc2 hs2
        clear hm2
        have hin : (i : Int) < (n : Int) := by omega
        have hq := bEqual_any (ps.getD i []) (ps.getD j []) _ _ _ hs2 S3.out
        have EQ := Lib.hid hq; have K1 := Lib.hid k1; have K2 := Lib.hid k2; have K3 := Lib.hid k3; have K4 := Lib.hid k4
        clear hq k1 k2 k3 k4 hs2 hcell
        go_wp2_with (first
          | (refine wpList_store_new (by rfl) 22 _ _ (by rfl) (by rfl) D _ _ (by rfl) (by rfl) (by rw [DS.out]; exact infoDg) (by rw [DS.out, ZS.out]) DO.out ?_; generalize w2.alloc (.cells D 22) = w3 at *; generalize w2.heap.size = bd at *)
          | (refine wpList_load_all (by rfl) 22 _ (by rfl) bd (by rfl) _ Tryd.underlying22 (by rfl) D _ A3.out (by rw [DS.out]; exact infoDg) ?_)
          | (refine wpList_mapD_look (by rfl) _ _ (by rfl) w.heap.size es (digestOf (ps.getD j [])) (digestOf_length _) (by rfl) D HD.out (by rfl) M3.out (.int .i64 (i : Int)) true (by rw [K1.out]; rfl) (by rw [K1.out]; rfl) ?_))
        refine EQ.out.mono ?_
        rintro e w4 ⟨rfl, rfl⟩
        by_cases hss : ps.getD i [] = ps.getD j []
        · rw [decide_eq_true hss]
          have I1 := Lib.hid (dinv_old DD.out K2.out K3.out); have I2 := Lib.hid (nobad_old NO.out K2.out K3.out K4.out hss)
          clear hss
          go_wp2_with fail
          go_roundw
          case rel => exact ⟨j + 1, by omega, by go_num, es, M3.out, I1.out, I2.out, B3.out⟩
          case measure => simp [intOf]; omega
        · rw [decide_eq_false hss]
          have I1 := Lib.hid (clash_yes NO.out PS.out K2.out K3.out K4.out hss)
          clear hss
          go_wp2_with fail
          go_ret3
          exact ⟨_, _, _, rfl, I1.out, B3.out⟩
      · have K1 := Lib.hid k1; have I1 := fun c => Lib.hid (dinv_new (c := c) DD.out k2); have I2 := Lib.hid (nobad_new NO.out k2)
        clear k1 k2 hcell
        go_wp2_with (first
          | (refine wpList_store_new (by rfl) 22 _ _ (by rfl) (by rfl) D _ _ (by rfl) (by rfl) (by rw [DS.out]; exact infoDg) (by rw [DS.out, ZS.out]) DO.out ?_; generalize w2.alloc (.cells D 22) = w3 at *; generalize w2.heap.size = bd at *)
          | (refine wpList_load_all (by rfl) 22 _ (by rfl) bd (by rfl) _ Tryd.underlying22 (by rfl) D _ A3.out (by rw [DS.out]; exact infoDg) ?_)
          | (refine wpList_mapD_look (by rfl) _ _ (by rfl) w.heap.size es (digestOf (ps.getD j [])) (digestOf_length _) (by rfl) D HD.out (by rfl) M3.out (.int .i64 0) false (by rw [K1.out]; rfl) (by rw [K1.out]; rfl) ?_)
          | (refine wpList_mapD_put (by rfl) _ _ _ (by rfl) w.heap.size es (digestOf (ps.getD j [])) (digestOf_length _) (j : Int) (by rfl) D HD.out (by rfl) (by rfl) M3.out K1.out ?_; intro c w4 hm4 hc4 _; have M4 := Lib.hid hm4; have B4 := Lib.hid (hc4.below B3.out (fun k hk => by rw [hk]; exact Nat.le_refl _) B3.out.size); have I4 := I1 c; clear hm4 hc4))
        go_roundw
        case rel => exact ⟨j + 1, by omega, by go_num, _, M4.out, I4.out, I2.out, B4.out⟩
        case measure => simp [intOf]; omega
    · have hj2 : j = n := by omega
      have hge : ¬ (j : Int) < (n : Int) := by omega
      have hnb : IsClash ps 0 0 false := clash_no (by rw [← HN.out, ← hj2]; exact hno)
      have NB := Lib.hid hnb; have BB := Lib.hid hb
      clear hnb hb hno hd hm
      go_wp2_with fail
      go_ret3
      exact ⟨_, _, _, rfl, NB.out, BB.out⟩
set_option maxRecDepth 100000 in
set_option maxHeartbeats 1000000 in
theorem pclash_any (ps : List (List (BitVec 8))) (v : Value) (w : World) (hv : Sls w v ps) (hn : ps.length ≤ 1000) (hl : ∀ p ∈ ps, p.length ≤ 1000000) (hT : Tabs w) :
    Calls Tryd.prog 27 #[v] w (ClashEnd ps w) := by
  have h := pclashIn_any ps v w hv hn hl hT
  obtain ⟨a0, cap0, rfl, _, _⟩ := hv
  have HH := Lib.hid h
  clear h hl hT
  go_enter Tryd.func27, Tryd.ntmps27
  go_wp2_with fail
  refine HH.out.mono ?_
  rintro e w2 ⟨a, c, ok, rfl, hi, hb⟩
  have HI := Lib.hid hi; have HB := Lib.hid hb
  clear hi hb HH
  go_wp2_with fail
  go_ret3
  exact ⟨_, _, _, rfl, HI.out, HB.out⟩
end Sha
end Go.Proofs.YtmfgimkopddcgaaDoor
namespace Go.Proofs.YtmfgimkopddcgaaDoor
namespace Sha
open Go.RowKit Mem
/-- One more text behind an own slice of slices. -/
theorem txt_add {D : Foot} {wr w2 w3 w5 : World} {v v' v2 : Value} {x : List (BitVec 8)} {l : List (List (BitVec 8))} {hs : List Value} {B : Nat} (he : Each2 (fun p q => SlB D wr p q) hs l) (hown : wr.ownsRow B 26 1 v l.length hs) (hd : ∀ k, D k → k < wr.heap.size ∧ v.ownBlock ≠ some k)
    (hb : Below wr.heap.size wr w2) (ho : OwnB w2 wr.heap.size v2 x) (hb2 : Below w2.heap.size w2 w3) (ha : App w3 w5 v v') :
    ∃ D' : Foot, Each2 (fun p q => SlB D' w5 p q) (hs ++ [v2]) (l ++ [x]) ∧ ∀ k, D' k → k < w5.heap.size ∧ v'.ownBlock ≠ some k := by
  have hb3 : Below wr.heap.size wr w3 := hb.trans (hb2.mono hb.size)
  have z3 := hb3.size
  have z2 := hb2.size
  have z5 := ha.size
  have s2 : SlB (fun k => D k ∨ v2.ownBlock = some k) w3 v2 x := by
    have h0 : SlB (fun k => D k ∨ v2.ownBlock = some k) w2 v2 x := by
      refine ⟨by simp [u8s_length], ?_⟩
      obtain ⟨a, cap, e, hc, hr⟩ := ho.open
      refine ⟨a, cap, e, hc, fun hne => ?_⟩
      obtain ⟨g, ea, _, hlt, hcell⟩ := hr (fun h0 => hne (by rw [h0]; rfl))
      refine ⟨g, 0, ea, .inr (by rw [e, ea]; rfl), hlt, fun j u hu => ?_⟩
      have hj : j < x.length := by
        have := (List.getElem?_eq_some_iff.1 hu).1
        rwa [u8s_length] at this
      rw [Nat.zero_add, hcell j hj, ← u8s_get x j hj, hu]
    exact h0.keep hb2.size fun k _ hlt => hb2.block k hlt
  have e3 : Each2 (fun p q => SlB (fun k => D k ∨ v2.ownBlock = some k) w3 p q) (hs ++ [v2]) (l ++ [x]) :=
    Each2.snoc s2 (he.mono fun _ _ g => (g.keep hb3.size fun k _ hlt => hb3.block k hlt).mono fun _ hk _ => .inl hk)
  have hd' : ∀ k, (D k ∨ v2.ownBlock = some k) → k < w3.heap.size ∧ v.ownBlock ≠ some k := fun k hk => by
    rcases hk with hk | hk
    · exact ⟨Nat.lt_of_lt_of_le (hd k hk).1 z3, (hd k hk).2⟩
    · have h6 := ho.lt k hk
      refine ⟨by omega, fun e => ?_⟩
      have := (World.ownsRow.lt hown k e).2
      omega
  refine ⟨fun k => D k ∨ v2.ownBlock = some k, e3.mono fun _ _ g => g.keep z5 fun k hk hlt => ha.k k hlt (hd' k hk).2, fun k hk => ?_⟩
  obtain ⟨h1, h2⟩ := hd' k hk
  refine ⟨by omega, fun e => ?_⟩
  rcases ha.b with e2 | ⟨g, e2, hg⟩
  · rw [e2] at e; exact h2 e
  · rw [e2] at e
    have : g = k := by simpa using e
    omega
theorem own_sls {D : Foot} {w : World} {v : Value} {l : List (List (BitVec 8))} {hs : List Value} {B : Nat} (he : Each2 (fun p q => SlB D w p q) hs l) (hown : w.ownsRow B 26 1 v l.length hs) : Sls w v l := by
  have hR := ownsRow_slR hown
  obtain ⟨hl, a, cap, rfl, hc, hr⟩ := hR
  refine ⟨a, cap, rfl, hc, fun hne => ?_⟩
  obtain ⟨bb, oo, ea, _, hlt, hcell⟩ := hr (fun h0 => hne (List.eq_nil_of_length_eq_zero h0))
  refine ⟨bb, oo, ea, hlt, fun i hi => ?_⟩
  obtain ⟨u, hu, hs2⟩ := Each2.at he (i := i) (y := l.getD i []) (by rw [List.getD_eq_getElem?_getD, List.getElem?_eq_getElem hi]; rfl)
  exact ⟨u, hcell i u hu, hs2.sl⟩
set_option maxRecDepth 100000 in
set_option maxHeartbeats 4000000 in
theorem ptexts_any {F : Foot} {bk : Nat} {ts : List (List (BitVec 8))} (w : World) (hr : Bk F bk w ts) (hn : ts.length ≤ 1000) (hl : ∀ t ∈ ts, t.length ≤ 1000000) :
    Calls Tryd.prog 24 #[bkp bk] w fun e w' => ∃ v, e = .returned v ∧ Sls w' v ts ∧ Below w.heap.size w w' := by
  obtain ⟨D0, vb, hb0⟩ := hr
  obtain ⟨hs0, he0, hown0⟩ := hb0.hs
  obtain ⟨asx, caps, rfl⟩ := rows_hd hown0
  have hrow := hb0.row
  have hsl := own_sls he0 hown0
  obtain ⟨n, hnn⟩ : ∃ n, n = ts.length := ⟨_, rfl⟩
  rw [← hnn] at hrow hsl hn
  have c0 : w.cell? ⟨bk, 0, none⟩ = some (.slice asx n caps) := by rw [hrow.cell]; rfl
  have HS := Lib.hid hsl; have HN := Lib.hid hnn; have HL := Lib.hid hl
  clear hb0 he0 hown0 hrow hsl hl hnn
  go_enter Tryd.func24, Tryd.ntmps24
  go_wp2_with fail
  clear c0
  go_loopw [3, 13] (fun v i wr => ∃ j : Nat, j ≤ n ∧ i = .int .i64 j ∧ ∃ v' D hs, v' = v ∧ Each2 (fun p q => SlB D wr p q) hs (ts.take j) ∧ wr.ownsRow w.heap.size 26 1 v' j hs ∧ (∀ k, D k → k < wr.heap.size ∧ v'.ownBlock ≠ some k) ∧ Below w.heap.size w wr) (fun _ i _ => n - (intOf i).toNat)
  case atStart => exact ⟨0, by omega, rfl, _, fun _ => False, [], rfl, trivial, ownsRow_nil0 _ _ _ _, fun k hk => hk.elim, Below.refl _ _⟩
  case round =>
    obtain ⟨j, hj, rfl, v, D, hs, rfl, he, hown, hd, hb⟩ := hrel
    by_cases hlt : j < n
    · have hlt' : (j : Int) < (n : Int) := by omega
      have hps : j < ts.length := by rw [← HN.out]; exact hlt
      obtain ⟨pb, po, vi, rfl, hpb, hcell, hsl⟩ := sls_at (HS.out.below hb) hps
      have hpm : ts.getD j [] ∈ ts := by rw [List.getD_eq_getElem?_getD, List.getElem?_eq_getElem hps]; exact List.getElem_mem _
      have hpl := HL.out _ hpm
      have htk : ts.take (j + 1) = ts.take j ++ [ts.getD j []] := by
        rw [List.take_add_one, List.getElem?_eq_getElem hps, List.getD_eq_getElem?_getD, List.getElem?_eq_getElem hps]; rfl
      have htl : (ts.take j).length = j := by rw [List.length_take]; omega
      obtain ⟨p, hp⟩ : ∃ p, p = ts.getD j [] := ⟨_, rfl⟩
      rw [← hp] at hsl hpl htk
      have hcl := pclone_any p vi wr hpl hsl
      obtain ⟨a1, c1, rfl⟩ := sl_inv hsl
      obtain ⟨m, hm⟩ : ∃ m, m = p.length := ⟨_, rfl⟩
      rw [← hm] at hcell hcl
      obtain ⟨av, cv, rfl⟩ := rows_hd hown
      have CL := Lib.hid hcl; have OW := Lib.hid hown; have HE := Lib.hid he; have HD := Lib.hid hd; have BB := Lib.hid hb; have TK := Lib.hid htk; have TL := Lib.hid htl; have PL := Lib.hid hm
      clear hcl hown he hd hb htk htl hsl hpl hpm hps hp hpb hm
      go_wp2_with fail
      refine CL.out.mono ?_
      rintro e w2 ⟨v2, rfl, ho2, hb2⟩
      obtain ⟨a2, c2, rfl⟩ := own_hd9 ho2 PL.out
      have L3 : Hid (Below w2.heap.size w2 (w2.alloc (.cells #[.slice a2 m c2] 26))) := Lib.hid ((Below.refl _ _).alloc (Nat.le_refl _) _)
      have OW3 := Lib.hid (ownsRow_below (ownsRow_below OW.out hb2) L3.out)
      have B3 : Hid (Below w.heap.size w (w2.alloc (.cells #[.slice a2 m c2] 26))) := Lib.hid ((BB.out.trans (hb2.mono BB.out.size)).trans (L3.out.mono (Nat.le_trans BB.out.size hb2.size)))
      have O2 := Lib.hid ho2; have B2 := Lib.hid hb2
      clear ho2 hb2 CL hcell
      go_wp2_with (first
        | (at_builtin; go_loud (refine wpList_append_app (by rfl) _ _ 44 (by rfl) (.slice (some ⟨w2.heap.size, 0, none⟩) 1 1) j 1 1 [.slice a2 m c2] (.slice none 0 0) 24 elemRS9 (by rfl) (by decide) (by rfl) OW3.out (by rfl) (rdR_new (w := w2) (e := 26) (C := #[.slice a2 m c2])) (by simp [Value.oneCell']) (by omega) (by omega) B3.out.size ?_); intro v5 w5 ho5 ha5 hb5; have O5 := Lib.hid ho5; have A5 := Lib.hid ha5; have B5 := Lib.hid (B3.out.trans hb5); clear ho5 ha5 hb5))
      obtain ⟨D', e5, d5⟩ := txt_add HE.out (by rw [TL.out]; exact OW.out) HD.out B2.out O2.out L3.out A5.out
      have E5 := Lib.hid e5; have D5 := Lib.hid d5
      clear e5 d5
      go_roundw
      case rel => exact ⟨j + 1, by omega, by go_num, v5, D', _, rfl, by rw [TK.out]; exact E5.out, O5.out, D5.out, B5.out⟩
      case measure => simp [intOf]; omega
    · have hj2 : j = n := by omega
      have hge : ¬ (j : Int) < (n : Int) := by omega
      have htk : ts.take j = ts := List.take_of_length_le (by rw [← HN.out]; omega)
      rw [htk] at he
      have hfin := own_sls he (by rw [← HN.out, ← hj2]; exact hown)
      have FI := Lib.hid hfin; have BB := Lib.hid hb
      clear he hown hd hb hfin htk
      go_wp2_with fail
      go_ret
      exact ⟨_, rfl, FI.out, BB.out⟩
set_option maxRecDepth 100000 in
set_option maxHeartbeats 1000000 in
theorem plen9_any {F : Foot} {bk : Nat} {ts : List (List (BitVec 8))} (w : World) (hr : Bk F bk w ts) :
    Calls Tryd.prog 25 #[bkp bk] w fun e w' => e = .returned (.int .i64 (ts.length : Int)) ∧ w = w' := by
  obtain ⟨D0, vb, hb0⟩ := hr
  obtain ⟨hs0, he0, hown0⟩ := hb0.hs
  obtain ⟨asx, caps, rfl⟩ := rows_hd hown0
  have hrow := hb0.row
  obtain ⟨n, hnn⟩ : ∃ n, n = ts.length := ⟨_, rfl⟩
  rw [← hnn] at hrow ⊢
  have c0 : w.cell? ⟨bk, 0, none⟩ = some (.slice asx n caps) := by rw [hrow.cell]; rfl
  clear hb0 he0 hown0 hrow hnn
  go_enter Tryd.func25, Tryd.ntmps25
  go_wp2_with fail
  go_ret
  exact ⟨rfl, rfl⟩
end Sha
end Go.Proofs.YtmfgimkopddcgaaDoor
