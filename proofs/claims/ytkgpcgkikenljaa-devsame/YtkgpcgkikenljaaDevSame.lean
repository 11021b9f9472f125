/- Layer 6, DevSame: two stores to which the same was done are the same; what is told may be written over; one that nobody made has nothing. -/
import Derived.Test.YtkgpcgkikenljaaDevDead
import Derived.Test.YtkgpcgkikenljaaDevQuad
import Derived.Test.YtkgpcgkikenljaaDevPlays
import Derived.Deep.DeepCutAuto
namespace Go.Proofs.Ytkgpcgkikenljaa
namespace Sha
open Go.RowKit Mem
/-- A slice that may be written over: n numbers of the kind, in a block from B on. -/
def Inc (t : TypeId) (k : IntKind) (B : Nat) (w : World) (a : Option Addr) (n : Nat) : Prop :=
  n ≠ 0 → ∃ g cur, a = some ⟨g, 0, none⟩ ∧ B ≤ g ∧ At w g cur t ∧ n ≤ cur.size ∧ ∀ i, i < n → ∃ z, cur[i]? = some (.int k z)
theorem inc_own {w : World} {B n : Nat} {t : TypeId} {k : IntKind} {a : Option Addr} {c : Nat} {xs : List Value} (h : w.ownsRow B t 1 (.slice a n c) n xs) (hx : ∀ u ∈ xs, ∃ z, u = .int k z) : Inc t k B w a n := by
  intro hn
  obtain ⟨hl, h | ⟨g, cap, cur, e, hg, hh, hnc, hc, hs, ht⟩⟩ := h
  · exact absurd h.2 hn
  · injection e with e1 _ _
    refine ⟨g, cur, e1, hg, hh, by omega, fun i hi => ?_⟩
    have hi2 : i < xs.length := by omega
    obtain ⟨z, hz⟩ := hx _ (List.getElem_mem hi2)
    refine ⟨z, ?_⟩
    have h1 : (cur.toList.take (n * 1))[i]? = xs[i]? := by rw [ht]
    rw [List.getElem?_take, if_pos (by omega), List.getElem?_eq_getElem hi2, hz] at h1
    rw [← Array.getElem?_toList, h1]
theorem Inc.at {t : TypeId} {k : IntKind} {B n : Nat} {w : World} {a : Option Addr} (h : Inc t k B w a n) {j : Nat} (hj : j < n) : ∃ g cur z, a = some ⟨g, 0, none⟩ ∧ B ≤ g ∧ At w g cur t ∧ j < cur.size ∧ w.cell? ⟨g, j, none⟩ = some (.int k z) ∧
    ∀ w' y, At w' g (cur.setIfInBounds j (.int k y)) t → Inc t k B w' (some ⟨g, 0, none⟩) n := by
  obtain ⟨g, cur, e, hg, hA, hs, hc⟩ := h (by omega)
  obtain ⟨z, hz⟩ := hc j hj
  refine ⟨g, cur, z, e, hg, hA, by omega, by rw [hA.cell]; exact hz, fun w' y hA' _ => ⟨g, _, rfl, hg, hA', by simpa using hs, fun i hi => ?_⟩⟩
  by_cases hij : j = i
  · subst hij
    exact ⟨y, by rw [Array.getElem?_setIfInBounds_self, if_pos (by omega)]⟩
  · obtain ⟨z', hz'⟩ := hc i hi
    exact ⟨z', by rw [Array.getElem?_setIfInBounds_ne hij]; exact hz'⟩
theorem Inc.keep {t : TypeId} {k : IntKind} {B n : Nat} {w w' : World} {a : Option Addr} (h : Inc t k B w a n) (hb : Below w.heap.size w w') : Inc t k B w' a n := fun hn => by
  obtain ⟨g, cur, e, hg, hA, hs, hc⟩ := h hn
  exact ⟨g, cur, e, hg, hA.below hb hA.lt, hs, hc⟩
/-- A store into a block of another type. -/
theorem Inc.other {t t' : TypeId} {k : IntKind} {B n g : Nat} {w w' : World} {a : Option Addr} {C : Array Value} (h : Inc t k B w a n) (hC : At w g C t') (ht : t' ≠ t) (ho : ∀ k, k ≠ g → w'.heap[k]? = w.heap[k]?) : Inc t k B w' a n := fun hn => by
  obtain ⟨g2, cur, e, hg, hA, hs, hc⟩ := h hn
  refine ⟨g2, cur, e, hg, ?_, hs, hc⟩
  have hne : g2 ≠ g := fun e2 => by
    subst e2
    unfold At at hA hC
    rw [hA] at hC
    injection hC with hC
    injection hC with _ h3
    exact ht h3.symm
  unfold At at *
  rw [ho g2 hne]; exact hA
theorem infoInt1 : (Try.prog.info? 3).map (·.size) = some 1 := by kernel_rfl
theorem inc_u8 (z : Int) : ∃ y, ∀ (t t2 : TypeId) (x x' : Operand) (w : World), (do eqGuard .add t x x' (.int .u8 z) (.int .u8 1); binOp .add t2 (.int .u8 z) (.int .u8 1) : Sem Value).run Try.prog w = .ok (.int .u8 y) w := ⟨IntKind.u8.wrap (z + 1), fun t t2 x x' w => by first | rfl | go_simp⟩
theorem inc_i64 (z : Int) : ∃ y, ∀ (t t2 : TypeId) (x x' : Operand) (w : World), (do eqGuard .add t x x' (.int .i64 z) (.int .i64 1); binOp .add t2 (.int .i64 z) (.int .i64 1) : Sem Value).run Try.prog w = .ok (.int .i64 y) w := ⟨IntKind.i64.wrap (z + 1), fun t t2 x x' w => by first | rfl | go_simp⟩
theorem flush_other (s : St6) : ¬ ((stFlush s).b = s.b ∧ (stFlush s).t = s.t) := by
  rintro ⟨_, h⟩
  have h2 : (s.t ++ [(-1 : Int)]).length = s.t.length := congrArg List.length h
  simp at h2
theorem psame_true {F G : Foot} {b c : Nat} {s : St6} (w : World) (hr : PSt F b w s) (hq : PSt G c w s) (hok : Ok6 1000 s) : Calls Try.prog 26 #[rq b, rq c] w (Told w (.bool true)) := by
  have h := psame_any w hr hq hok hok
  have e : decide (s.b = s.b ∧ s.t = s.t) = true := by simp
  rw [e] at h; exact h
theorem psame_false {F G : Foot} {b c : Nat} {s : St6} (w : World) (hr : PSt F b w (stFlush s)) (hq : PSt G c w s) (hok : Ok6 1000 (stFlush s)) (hoq : Ok6 1000 s) : Calls Try.prog 26 #[rq b, rq c] w (Told w (.bool false)) := by
  have h := psame_any w hr hq hok hoq
  rw [decide_eq_false (flush_other s)] at h; exact h
theorem dead_pick {w : World} {b j : Nat} (h1 : At w b deadRow 62) (h2 : At w (b + 1) #[.pointer none, rq b] 23) (hj : j < 2) : ∃ p, w.cell? ⟨b + 1, j, none⟩ = some p ∧ Dead w p := by
  rcases (by omega : j = 0 ∨ j = 1) with rfl | rfl
  · exact ⟨_, by rw [h2.cell]; rfl, dead_nil w⟩
  · exact ⟨_, by rw [h2.cell]; rfl, .inr ⟨b, rfl, h1⟩⟩
set_option maxRecDepth 100000 in
set_option maxHeartbeats 16000000 in
theorem same6_law (l : List Step6) (vl : Value) (x : Step6) (w : World) (hl : SlS6 w vl l) (ll : l.length ≤ 9223372036854775807) (hs : ∀ x ∈ l, goodS6 x) (_hx : goodS6 x) :
    Calls Try.prog 6 #[vl, .agg (stepC6 x)] w fun e w' => e = .returned (.bool true) ∧ Below w.heap.size w w' := by
  have ng : ∀ wx : World, Calls Try.prog 7 #[.int .i64 4] wx fun e w' => ∃ b F, e = .returned (.tuple #[rq b, .int .i64 0]) ∧ PSt F b w' (stNew 4) ∧ (∀ k, F k → wx.heap.size ≤ k) ∧ Below wx.heap.size wx w' := fun wx => pnew_good 4 wx (by decide) (by decide)
  have rg : ∀ wx : World, Calls Try.prog 8 #[.int .i64 4] wx fun e w' => ∃ vb, e = .returned (.tuple #[.agg (dRow 4 vb), .int .i64 0]) ∧ OwnB w' wx.heap.size vb (List.replicate (4 * 256) 0) ∧ Below wx.heap.size wx w' := fun wx => rnew_good 4 wx (by decide) (by decide)
  have bl1 : ∀ wx : World, Calls Try.prog 21 #[.int .u8 1] wx (SEnd wx (List.replicate 256 1)) := fun wx => block_any 1 wx
  have NG := Lib.hid ng; have RG := Lib.hid rg; have BL1 := Lib.hid bl1; have ALV := Lib.hid (fun wx => alive6_any devC wx)
  have SH := Lib.hid (fun wx => short6_any l vl wx); have HL := Lib.hid hl; have HS := Lib.hid hs; have LL := Lib.hid ll
  obtain ⟨w3, hw3⟩ : ∃ w3, w3 = ((w.alloc (.cells (stepC6 x) 39)).alloc (.cells deadRow 62)).alloc (.cells #[.pointer none, rq (w.heap.size + 1)] 23) := ⟨_, rfl⟩
  have b3 : Below w.heap.size w w3 := by rw [hw3]; exact (((Below.refl _ w).alloc (Nat.le_refl _) _).alloc (by simp) _).alloc (by simp; omega) _
  have aX : At w3 w.heap.size (stepC6 x) 39 := by rw [hw3]; exact ((at_new w _ _).alloc _).alloc _
  have aD : At w3 (w.heap.size + 1) deadRow 62 := by
    have h := (at_new (w.alloc (.cells (stepC6 x) 39)) deadRow 62).alloc (.cells #[.pointer none, rq (w.heap.size + 1)] 23)
    rw [World.size_alloc] at h; rw [hw3]; exact h
  have aP : At w3 (w.heap.size + 1 + 1) #[.pointer none, rq (w.heap.size + 1)] 23 := by
    have h := at_new ((w.alloc (.cells (stepC6 x) 39)).alloc (.cells deadRow 62)) #[.pointer none, rq (w.heap.size + 1)] 23
    rw [World.size_alloc, World.size_alloc] at h; rw [hw3]; exact h
  have hX : ∀ wx, Below w3.heap.size w3 wx → wx.cell? ⟨w.heap.size, 1, none⟩ = some (.int .i64 x.n) ∧ wx.cell? ⟨w.heap.size, 2, none⟩ = some (.int .i64 x.a) ∧ wx.cell? ⟨w.heap.size, 4, none⟩ = some (.int .u64 (x.q : Int)) := fun wx hb => by
    have h := aX.below hb aX.lt
    exact ⟨h.cell' 1 rfl, h.cell' 2 rfl, h.cell' 4 rfl⟩
  have hP : ∀ wx j, Below w3.heap.size w3 wx → j < 2 → ∃ p, wx.cell? ⟨w.heap.size + 1 + 1, j, none⟩ = some p ∧ Dead wx p := fun wx j hb hj => dead_pick (aD.below hb aD.lt) (aP.below hb aP.lt) hj
  have B3 := Lib.hid b3; have XX := Lib.hid hX; have PP := Lib.hid hP; have LX := Lib.hid aX.lt
  clear ng rg bl1 hl hs ll b3 aX aD aP hX hP
  unfold deadRow at hw3
  go_enter Try.func6, Try.ntmps6
  go_wp2_with fail
  rw [← hw3]
  clear hw3
  go_loopw [28] (fun i wr => ∃ j : Nat, j ≤ 2 ∧ i = .int .i64 j ∧ Below w3.heap.size w3 wr) (fun i _ => 2 - (intOf i).toNat)
  case atStart => exact ⟨0, by omega, rfl, Below.refl _ _⟩
  case round =>
    obtain ⟨j, hj, rfl, hI⟩ := hrel
    by_cases hlt : j < 2
    · have hlt' : (j : Int) < 2 := by omega
      obtain ⟨p, cp, hd⟩ := PP.out wr j hI hlt
      obtain ⟨cx1, cx2, cx4⟩ := XX.out wr hI
      have DD := Lib.hid hd; have HI := Lib.hid hI
      clear hd hI
      go_wp2_with fail
      refine (dread_any DD.out x.n).mono ?_
      rintro e w5 ⟨rfl, hb5⟩
      have D5 := Lib.hid (DD.out.below hb5); have B5 : Hid (Below w3.heap.size w3 w5) := HI.out.trans (hb5.mono HI.out.size)
      clear hb5 cx1 cx2 cx4 cp DD
      obtain ⟨cx1, cx2, cx4⟩ := XX.out w5 B5.out
      go_wp2_with fail
      refine (dput_any D5.out).mono ?_
      rintro o w' ⟨rfl, rfl⟩
      go_wp2_with fail
      refine (dcrash_any D5.out x.q x.n x.a).mono ?_
      rintro o w' ⟨rfl, rfl⟩
      go_wp2_with fail
      have C1 := Lib.hid cx1; have C2 := Lib.hid cx2
      have L5 : Hid (w.heap.size < w5.heap.size) := Nat.lt_of_lt_of_le LX.out B5.out.size
      refine wp_region_plan (.take 0 (.take 1 (.take 2 (.take 3 (.take 4 (.take 5 (.take 6 (.take 7 (.take 8 (.take 9 (.take 10 (.take 11 (.take 12 (.take 13 (.take 14 (.take 15 (.take 16 (.take 17 (.take 18 (.sole 19 (.sole 20 (.take 21 (.take 22 (.take 23 (.take 24 (.take 25 (.take 26 (.take 27 (.take 28 (.sole 29 (.take 30 (.take 31 (.take 32 (.take 33 (.take 34 (.take 35 (.sole 36 (.take 37 (.take 38 (.take 39 (.take 40 (.take 42 (.take 45 (.take 49 (.take 53 (.sole 41 (.sole 43 (.take 44 (.sole 46 (.take 47 (.take 48 (.sole 50 (.take 51 (.take 52 (.sole 54 (.take 55 (.take 56 (.take 57 (.take 58 (.take 59 (.take 60 (.sole 61 (.take 62 (.take 63 .done)))))))))))))))))))))))))))))))))))))))))))))))))))))))))))))))) (by kernel_rfl) (by kernel_rfl) (by kernel_rfl) ?_
      (first | (refine plan_move _ _ (by rfl) (by rfl) (.inl (by rfl)) (by first | (with_reducible exact Mem.ev_const _ _) | (with_reducible exact Mem.ev_zero _ _ _) | (with_reducible (apply Eq.trans (Mem.ev_tmp _ _ _)); simp only [List.getD_cons_succ, List.getD_cons_zero] <;> rfl)) ?_) | (refine plan_move _ _ (by rfl) (by rfl) (.inr (by rfl)) (by first | (with_reducible exact Mem.ev_const _ _) | (with_reducible exact Mem.ev_zero _ _ _) | (with_reducible (apply Eq.trans (Mem.ev_tmp _ _ _)); simp only [List.getD_cons_succ, List.getD_cons_zero] <;> rfl)) ?_) | (refine plan_pick_t _ _ _ _ (by rfl) (by rfl) (by rfl) (by first | (with_reducible exact Mem.ev_const _ _) | (with_reducible exact Mem.ev_zero _ _ _) | (with_reducible (apply Eq.trans (Mem.ev_tmp _ _ _)); simp only [List.getD_cons_succ, List.getD_cons_zero] <;> rfl)) (by first | (with_reducible exact Mem.ev_const _ _) | (with_reducible exact Mem.ev_zero _ _ _) | (with_reducible (apply Eq.trans (Mem.ev_tmp _ _ _)); simp only [List.getD_cons_succ, List.getD_cons_zero] <;> rfl)) ?_) | (refine plan_pick_f _ _ _ _ (by rfl) (by rfl) (by rfl) (by first | (with_reducible exact Mem.ev_const _ _) | (with_reducible exact Mem.ev_zero _ _ _) | (with_reducible (apply Eq.trans (Mem.ev_tmp _ _ _)); simp only [List.getD_cons_succ, List.getD_cons_zero] <;> rfl)) (by first | (with_reducible exact Mem.ev_const _ _) | (with_reducible exact Mem.ev_zero _ _ _) | (with_reducible (apply Eq.trans (Mem.ev_tmp _ _ _)); simp only [List.getD_cons_succ, List.getD_cons_zero] <;> rfl)) ?_))
      (simp only [Act.put, List.setIfInBounds_toArray, List.set_cons_zero, List.set_cons_succ])
      refine plan_len _ _ _ none 0 0 (by rfl) (by rfl) (by rfl) (by rfl) (by first | (with_reducible exact Mem.ev_const _ _) | (with_reducible exact Mem.ev_zero _ _ _) | (with_reducible (apply Eq.trans (Mem.ev_tmp _ _ _)); simp only [List.getD_cons_succ, List.getD_cons_zero] <;> rfl)) (fun wx => by go_simp) ?_
      (simp only [Act.put, List.setIfInBounds_toArray, List.set_cons_zero, List.set_cons_succ])
      refine plan_bin _ _ _ _ _ _ _ _ (by rfl) (by rfl) (by rfl) (by first | (with_reducible exact Mem.ev_const _ _) | (with_reducible exact Mem.ev_zero _ _ _) | (with_reducible (apply Eq.trans (Mem.ev_tmp _ _ _)); simp only [List.getD_cons_succ, List.getD_cons_zero] <;> rfl)) (by first | (with_reducible exact Mem.ev_const _ _) | (with_reducible exact Mem.ev_zero _ _ _) | (with_reducible (apply Eq.trans (Mem.ev_tmp _ _ _)); simp only [List.getD_cons_succ, List.getD_cons_zero] <;> rfl)) (fun wx => (by go_simp : (do eqGuard .neq 3 _ _ (.int .i64 ((0 : Nat) : Int)) (.int .i64 0); Go.binOp .neq 3 (.int .i64 ((0 : Nat) : Int)) (.int .i64 0) : Sem Value).run Try.prog wx = .ok (.bool false) wx)) ?_
      (simp only [Act.put, List.setIfInBounds_toArray, List.set_cons_zero, List.set_cons_succ])
      (first | (refine plan_move _ _ (by rfl) (by rfl) (.inl (by rfl)) (by first | (with_reducible exact Mem.ev_const _ _) | (with_reducible exact Mem.ev_zero _ _ _) | (with_reducible (apply Eq.trans (Mem.ev_tmp _ _ _)); simp only [List.getD_cons_succ, List.getD_cons_zero] <;> rfl)) ?_) | (refine plan_move _ _ (by rfl) (by rfl) (.inr (by rfl)) (by first | (with_reducible exact Mem.ev_const _ _) | (with_reducible exact Mem.ev_zero _ _ _) | (with_reducible (apply Eq.trans (Mem.ev_tmp _ _ _)); simp only [List.getD_cons_succ, List.getD_cons_zero] <;> rfl)) ?_) | (refine plan_pick_t _ _ _ _ (by rfl) (by rfl) (by rfl) (by first | (with_reducible exact Mem.ev_const _ _) | (with_reducible exact Mem.ev_zero _ _ _) | (with_reducible (apply Eq.trans (Mem.ev_tmp _ _ _)); simp only [List.getD_cons_succ, List.getD_cons_zero] <;> rfl)) (by first | (with_reducible exact Mem.ev_const _ _) | (with_reducible exact Mem.ev_zero _ _ _) | (with_reducible (apply Eq.trans (Mem.ev_tmp _ _ _)); simp only [List.getD_cons_succ, List.getD_cons_zero] <;> rfl)) ?_) | (refine plan_pick_f _ _ _ _ (by rfl) (by rfl) (by rfl) (by first | (with_reducible exact Mem.ev_const _ _) | (with_reducible exact Mem.ev_zero _ _ _) | (with_reducible (apply Eq.trans (Mem.ev_tmp _ _ _)); simp only [List.getD_cons_succ, List.getD_cons_zero] <;> rfl)) (by first | (with_reducible exact Mem.ev_const _ _) | (with_reducible exact Mem.ev_zero _ _ _) | (with_reducible (apply Eq.trans (Mem.ev_tmp _ _ _)); simp only [List.getD_cons_succ, List.getD_cons_zero] <;> rfl)) ?_))
      (simp only [Act.put, List.setIfInBounds_toArray, List.set_cons_zero, List.set_cons_succ])
      (first | (refine plan_move _ _ (by rfl) (by rfl) (.inl (by rfl)) (by first | (with_reducible exact Mem.ev_const _ _) | (with_reducible exact Mem.ev_zero _ _ _) | (with_reducible (apply Eq.trans (Mem.ev_tmp _ _ _)); simp only [List.getD_cons_succ, List.getD_cons_zero] <;> rfl)) ?_) | (refine plan_move _ _ (by rfl) (by rfl) (.inr (by rfl)) (by first | (with_reducible exact Mem.ev_const _ _) | (with_reducible exact Mem.ev_zero _ _ _) | (with_reducible (apply Eq.trans (Mem.ev_tmp _ _ _)); simp only [List.getD_cons_succ, List.getD_cons_zero] <;> rfl)) ?_) | (refine plan_pick_t _ _ _ _ (by rfl) (by rfl) (by rfl) (by first | (with_reducible exact Mem.ev_const _ _) | (with_reducible exact Mem.ev_zero _ _ _) | (with_reducible (apply Eq.trans (Mem.ev_tmp _ _ _)); simp only [List.getD_cons_succ, List.getD_cons_zero] <;> rfl)) (by first | (with_reducible exact Mem.ev_const _ _) | (with_reducible exact Mem.ev_zero _ _ _) | (with_reducible (apply Eq.trans (Mem.ev_tmp _ _ _)); simp only [List.getD_cons_succ, List.getD_cons_zero] <;> rfl)) ?_) | (refine plan_pick_f _ _ _ _ (by rfl) (by rfl) (by rfl) (by first | (with_reducible exact Mem.ev_const _ _) | (with_reducible exact Mem.ev_zero _ _ _) | (with_reducible (apply Eq.trans (Mem.ev_tmp _ _ _)); simp only [List.getD_cons_succ, List.getD_cons_zero] <;> rfl)) (by first | (with_reducible exact Mem.ev_const _ _) | (with_reducible exact Mem.ev_zero _ _ _) | (with_reducible (apply Eq.trans (Mem.ev_tmp _ _ _)); simp only [List.getD_cons_succ, List.getD_cons_zero] <;> rfl)) ?_))
      (simp only [Act.put, List.setIfInBounds_toArray, List.set_cons_zero, List.set_cons_succ])
      refine plan_bin _ _ _ _ _ _ _ _ (by rfl) (by rfl) (by rfl) (by first | (with_reducible exact Mem.ev_const _ _) | (with_reducible exact Mem.ev_zero _ _ _) | (with_reducible (apply Eq.trans (Mem.ev_tmp _ _ _)); simp only [List.getD_cons_succ, List.getD_cons_zero] <;> rfl)) (by first | (with_reducible exact Mem.ev_const _ _) | (with_reducible exact Mem.ev_zero _ _ _) | (with_reducible (apply Eq.trans (Mem.ev_tmp _ _ _)); simp only [List.getD_cons_succ, List.getD_cons_zero] <;> rfl)) (fun wx => (by go_simp : (do eqGuard .neq 24 _ _ (.int .i64 2) (.int .i64 2); Go.binOp .neq 24 (.int .i64 2) (.int .i64 2) : Sem Value).run Try.prog wx = .ok (.bool false) wx)) ?_
      (simp only [Act.put, List.setIfInBounds_toArray, List.set_cons_zero, List.set_cons_succ])
      refine plan_pick_f _ _ _ _ (by rfl) (by rfl) (by rfl) (by first | (with_reducible exact Mem.ev_const _ _) | (with_reducible exact Mem.ev_zero _ _ _) | (with_reducible (apply Eq.trans (Mem.ev_tmp _ _ _)); simp only [List.getD_cons_succ, List.getD_cons_zero] <;> rfl)) (by first | (with_reducible exact Mem.ev_const _ _) | (with_reducible exact Mem.ev_zero _ _ _) | (with_reducible (apply Eq.trans (Mem.ev_tmp _ _ _)); simp only [List.getD_cons_succ, List.getD_cons_zero] <;> rfl)) ?_
      (simp only [Act.put, List.setIfInBounds_toArray, List.set_cons_zero, List.set_cons_succ])
      (first | (refine plan_move _ _ (by rfl) (by rfl) (.inl (by rfl)) (by first | (with_reducible exact Mem.ev_const _ _) | (with_reducible exact Mem.ev_zero _ _ _) | (with_reducible (apply Eq.trans (Mem.ev_tmp _ _ _)); simp only [List.getD_cons_succ, List.getD_cons_zero] <;> rfl)) ?_) | (refine plan_move _ _ (by rfl) (by rfl) (.inr (by rfl)) (by first | (with_reducible exact Mem.ev_const _ _) | (with_reducible exact Mem.ev_zero _ _ _) | (with_reducible (apply Eq.trans (Mem.ev_tmp _ _ _)); simp only [List.getD_cons_succ, List.getD_cons_zero] <;> rfl)) ?_) | (refine plan_pick_t _ _ _ _ (by rfl) (by rfl) (by rfl) (by first | (with_reducible exact Mem.ev_const _ _) | (with_reducible exact Mem.ev_zero _ _ _) | (with_reducible (apply Eq.trans (Mem.ev_tmp _ _ _)); simp only [List.getD_cons_succ, List.getD_cons_zero] <;> rfl)) (by first | (with_reducible exact Mem.ev_const _ _) | (with_reducible exact Mem.ev_zero _ _ _) | (with_reducible (apply Eq.trans (Mem.ev_tmp _ _ _)); simp only [List.getD_cons_succ, List.getD_cons_zero] <;> rfl)) ?_) | (refine plan_pick_f _ _ _ _ (by rfl) (by rfl) (by rfl) (by first | (with_reducible exact Mem.ev_const _ _) | (with_reducible exact Mem.ev_zero _ _ _) | (with_reducible (apply Eq.trans (Mem.ev_tmp _ _ _)); simp only [List.getD_cons_succ, List.getD_cons_zero] <;> rfl)) (by first | (with_reducible exact Mem.ev_const _ _) | (with_reducible exact Mem.ev_zero _ _ _) | (with_reducible (apply Eq.trans (Mem.ev_tmp _ _ _)); simp only [List.getD_cons_succ, List.getD_cons_zero] <;> rfl)) ?_))
      (simp only [Act.put, List.setIfInBounds_toArray, List.set_cons_zero, List.set_cons_succ])
      (first | (refine plan_move _ _ (by rfl) (by rfl) (.inl (by rfl)) (by first | (with_reducible exact Mem.ev_const _ _) | (with_reducible exact Mem.ev_zero _ _ _) | (with_reducible (apply Eq.trans (Mem.ev_tmp _ _ _)); simp only [List.getD_cons_succ, List.getD_cons_zero] <;> rfl)) ?_) | (refine plan_move _ _ (by rfl) (by rfl) (.inr (by rfl)) (by first | (with_reducible exact Mem.ev_const _ _) | (with_reducible exact Mem.ev_zero _ _ _) | (with_reducible (apply Eq.trans (Mem.ev_tmp _ _ _)); simp only [List.getD_cons_succ, List.getD_cons_zero] <;> rfl)) ?_) | (refine plan_pick_t _ _ _ _ (by rfl) (by rfl) (by rfl) (by first | (with_reducible exact Mem.ev_const _ _) | (with_reducible exact Mem.ev_zero _ _ _) | (with_reducible (apply Eq.trans (Mem.ev_tmp _ _ _)); simp only [List.getD_cons_succ, List.getD_cons_zero] <;> rfl)) (by first | (with_reducible exact Mem.ev_const _ _) | (with_reducible exact Mem.ev_zero _ _ _) | (with_reducible (apply Eq.trans (Mem.ev_tmp _ _ _)); simp only [List.getD_cons_succ, List.getD_cons_zero] <;> rfl)) ?_) | (refine plan_pick_f _ _ _ _ (by rfl) (by rfl) (by rfl) (by first | (with_reducible exact Mem.ev_const _ _) | (with_reducible exact Mem.ev_zero _ _ _) | (with_reducible (apply Eq.trans (Mem.ev_tmp _ _ _)); simp only [List.getD_cons_succ, List.getD_cons_zero] <;> rfl)) (by first | (with_reducible exact Mem.ev_const _ _) | (with_reducible exact Mem.ev_zero _ _ _) | (with_reducible (apply Eq.trans (Mem.ev_tmp _ _ _)); simp only [List.getD_cons_succ, List.getD_cons_zero] <;> rfl)) ?_))
      (simp only [Act.put, List.setIfInBounds_toArray, List.set_cons_zero, List.set_cons_succ])
      refine plan_bin _ _ _ _ _ _ _ _ (by rfl) (by rfl) (by rfl) (by first | (with_reducible exact Mem.ev_const _ _) | (with_reducible exact Mem.ev_zero _ _ _) | (with_reducible (apply Eq.trans (Mem.ev_tmp _ _ _)); simp only [List.getD_cons_succ, List.getD_cons_zero] <;> rfl)) (by first | (with_reducible exact Mem.ev_const _ _) | (with_reducible exact Mem.ev_zero _ _ _) | (with_reducible (apply Eq.trans (Mem.ev_tmp _ _ _)); simp only [List.getD_cons_succ, List.getD_cons_zero] <;> rfl)) (fun wx => (by go_simp : (do eqGuard .neq 3 _ _ (.int .i64 0) (.int .i64 0); Go.binOp .neq 3 (.int .i64 0) (.int .i64 0) : Sem Value).run Try.prog wx = .ok (.bool false) wx)) ?_
      (simp only [Act.put, List.setIfInBounds_toArray, List.set_cons_zero, List.set_cons_succ])
      refine plan_pick_f _ _ _ _ (by rfl) (by rfl) (by rfl) (by first | (with_reducible exact Mem.ev_const _ _) | (with_reducible exact Mem.ev_zero _ _ _) | (with_reducible (apply Eq.trans (Mem.ev_tmp _ _ _)); simp only [List.getD_cons_succ, List.getD_cons_zero] <;> rfl)) (by first | (with_reducible exact Mem.ev_const _ _) | (with_reducible exact Mem.ev_zero _ _ _) | (with_reducible (apply Eq.trans (Mem.ev_tmp _ _ _)); simp only [List.getD_cons_succ, List.getD_cons_zero] <;> rfl)) ?_
      (simp only [Act.put, List.setIfInBounds_toArray, List.set_cons_zero, List.set_cons_succ])
      (first | (refine plan_move _ _ (by rfl) (by rfl) (.inl (by rfl)) (by first | (with_reducible exact Mem.ev_const _ _) | (with_reducible exact Mem.ev_zero _ _ _) | (with_reducible (apply Eq.trans (Mem.ev_tmp _ _ _)); simp only [List.getD_cons_succ, List.getD_cons_zero] <;> rfl)) ?_) | (refine plan_move _ _ (by rfl) (by rfl) (.inr (by rfl)) (by first | (with_reducible exact Mem.ev_const _ _) | (with_reducible exact Mem.ev_zero _ _ _) | (with_reducible (apply Eq.trans (Mem.ev_tmp _ _ _)); simp only [List.getD_cons_succ, List.getD_cons_zero] <;> rfl)) ?_) | (refine plan_pick_t _ _ _ _ (by rfl) (by rfl) (by rfl) (by first | (with_reducible exact Mem.ev_const _ _) | (with_reducible exact Mem.ev_zero _ _ _) | (with_reducible (apply Eq.trans (Mem.ev_tmp _ _ _)); simp only [List.getD_cons_succ, List.getD_cons_zero] <;> rfl)) (by first | (with_reducible exact Mem.ev_const _ _) | (with_reducible exact Mem.ev_zero _ _ _) | (with_reducible (apply Eq.trans (Mem.ev_tmp _ _ _)); simp only [List.getD_cons_succ, List.getD_cons_zero] <;> rfl)) ?_) | (refine plan_pick_f _ _ _ _ (by rfl) (by rfl) (by rfl) (by first | (with_reducible exact Mem.ev_const _ _) | (with_reducible exact Mem.ev_zero _ _ _) | (with_reducible (apply Eq.trans (Mem.ev_tmp _ _ _)); simp only [List.getD_cons_succ, List.getD_cons_zero] <;> rfl)) (by first | (with_reducible exact Mem.ev_const _ _) | (with_reducible exact Mem.ev_zero _ _ _) | (with_reducible (apply Eq.trans (Mem.ev_tmp _ _ _)); simp only [List.getD_cons_succ, List.getD_cons_zero] <;> rfl)) ?_))
      (simp only [Act.put, List.setIfInBounds_toArray, List.set_cons_zero, List.set_cons_succ])
      (first | (refine plan_move _ _ (by rfl) (by rfl) (.inl (by rfl)) (by first | (with_reducible exact Mem.ev_const _ _) | (with_reducible exact Mem.ev_zero _ _ _) | (with_reducible (apply Eq.trans (Mem.ev_tmp _ _ _)); simp only [List.getD_cons_succ, List.getD_cons_zero] <;> rfl)) ?_) | (refine plan_move _ _ (by rfl) (by rfl) (.inr (by rfl)) (by first | (with_reducible exact Mem.ev_const _ _) | (with_reducible exact Mem.ev_zero _ _ _) | (with_reducible (apply Eq.trans (Mem.ev_tmp _ _ _)); simp only [List.getD_cons_succ, List.getD_cons_zero] <;> rfl)) ?_) | (refine plan_pick_t _ _ _ _ (by rfl) (by rfl) (by rfl) (by first | (with_reducible exact Mem.ev_const _ _) | (with_reducible exact Mem.ev_zero _ _ _) | (with_reducible (apply Eq.trans (Mem.ev_tmp _ _ _)); simp only [List.getD_cons_succ, List.getD_cons_zero] <;> rfl)) (by first | (with_reducible exact Mem.ev_const _ _) | (with_reducible exact Mem.ev_zero _ _ _) | (with_reducible (apply Eq.trans (Mem.ev_tmp _ _ _)); simp only [List.getD_cons_succ, List.getD_cons_zero] <;> rfl)) ?_) | (refine plan_pick_f _ _ _ _ (by rfl) (by rfl) (by rfl) (by first | (with_reducible exact Mem.ev_const _ _) | (with_reducible exact Mem.ev_zero _ _ _) | (with_reducible (apply Eq.trans (Mem.ev_tmp _ _ _)); simp only [List.getD_cons_succ, List.getD_cons_zero] <;> rfl)) (by first | (with_reducible exact Mem.ev_const _ _) | (with_reducible exact Mem.ev_zero _ _ _) | (with_reducible (apply Eq.trans (Mem.ev_tmp _ _ _)); simp only [List.getD_cons_succ, List.getD_cons_zero] <;> rfl)) ?_))
      (simp only [Act.put, List.setIfInBounds_toArray, List.set_cons_zero, List.set_cons_succ])
      refine plan_bin _ _ _ _ _ _ _ _ (by rfl) (by rfl) (by rfl) (by first | (with_reducible exact Mem.ev_const _ _) | (with_reducible exact Mem.ev_zero _ _ _) | (with_reducible (apply Eq.trans (Mem.ev_tmp _ _ _)); simp only [List.getD_cons_succ, List.getD_cons_zero] <;> rfl)) (by first | (with_reducible exact Mem.ev_const _ _) | (with_reducible exact Mem.ev_zero _ _ _) | (with_reducible (apply Eq.trans (Mem.ev_tmp _ _ _)); simp only [List.getD_cons_succ, List.getD_cons_zero] <;> rfl)) (fun wx => (by go_simp : (do eqGuard .neq 24 _ _ (.int .i64 2) (.int .i64 2); Go.binOp .neq 24 (.int .i64 2) (.int .i64 2) : Sem Value).run Try.prog wx = .ok (.bool false) wx)) ?_
      (simp only [Act.put, List.setIfInBounds_toArray, List.set_cons_zero, List.set_cons_succ])
      refine plan_pick_f _ _ _ _ (by rfl) (by rfl) (by rfl) (by first | (with_reducible exact Mem.ev_const _ _) | (with_reducible exact Mem.ev_zero _ _ _) | (with_reducible (apply Eq.trans (Mem.ev_tmp _ _ _)); simp only [List.getD_cons_succ, List.getD_cons_zero] <;> rfl)) (by first | (with_reducible exact Mem.ev_const _ _) | (with_reducible exact Mem.ev_zero _ _ _) | (with_reducible (apply Eq.trans (Mem.ev_tmp _ _ _)); simp only [List.getD_cons_succ, List.getD_cons_zero] <;> rfl)) ?_
      (simp only [Act.put, List.setIfInBounds_toArray, List.set_cons_zero, List.set_cons_succ])
      (first | (refine plan_move _ _ (by rfl) (by rfl) (.inl (by rfl)) (by first | (with_reducible exact Mem.ev_const _ _) | (with_reducible exact Mem.ev_zero _ _ _) | (with_reducible (apply Eq.trans (Mem.ev_tmp _ _ _)); simp only [List.getD_cons_succ, List.getD_cons_zero] <;> rfl)) ?_) | (refine plan_move _ _ (by rfl) (by rfl) (.inr (by rfl)) (by first | (with_reducible exact Mem.ev_const _ _) | (with_reducible exact Mem.ev_zero _ _ _) | (with_reducible (apply Eq.trans (Mem.ev_tmp _ _ _)); simp only [List.getD_cons_succ, List.getD_cons_zero] <;> rfl)) ?_) | (refine plan_pick_t _ _ _ _ (by rfl) (by rfl) (by rfl) (by first | (with_reducible exact Mem.ev_const _ _) | (with_reducible exact Mem.ev_zero _ _ _) | (with_reducible (apply Eq.trans (Mem.ev_tmp _ _ _)); simp only [List.getD_cons_succ, List.getD_cons_zero] <;> rfl)) (by first | (with_reducible exact Mem.ev_const _ _) | (with_reducible exact Mem.ev_zero _ _ _) | (with_reducible (apply Eq.trans (Mem.ev_tmp _ _ _)); simp only [List.getD_cons_succ, List.getD_cons_zero] <;> rfl)) ?_) | (refine plan_pick_f _ _ _ _ (by rfl) (by rfl) (by rfl) (by first | (with_reducible exact Mem.ev_const _ _) | (with_reducible exact Mem.ev_zero _ _ _) | (with_reducible (apply Eq.trans (Mem.ev_tmp _ _ _)); simp only [List.getD_cons_succ, List.getD_cons_zero] <;> rfl)) (by first | (with_reducible exact Mem.ev_const _ _) | (with_reducible exact Mem.ev_zero _ _ _) | (with_reducible (apply Eq.trans (Mem.ev_tmp _ _ _)); simp only [List.getD_cons_succ, List.getD_cons_zero] <;> rfl)) ?_))
      (simp only [Act.put, List.setIfInBounds_toArray, List.set_cons_zero, List.set_cons_succ])
      (first | (refine plan_move _ _ (by rfl) (by rfl) (.inl (by rfl)) (by first | (with_reducible exact Mem.ev_const _ _) | (with_reducible exact Mem.ev_zero _ _ _) | (with_reducible (apply Eq.trans (Mem.ev_tmp _ _ _)); simp only [List.getD_cons_succ, List.getD_cons_zero] <;> rfl)) ?_) | (refine plan_move _ _ (by rfl) (by rfl) (.inr (by rfl)) (by first | (with_reducible exact Mem.ev_const _ _) | (with_reducible exact Mem.ev_zero _ _ _) | (with_reducible (apply Eq.trans (Mem.ev_tmp _ _ _)); simp only [List.getD_cons_succ, List.getD_cons_zero] <;> rfl)) ?_) | (refine plan_pick_t _ _ _ _ (by rfl) (by rfl) (by rfl) (by first | (with_reducible exact Mem.ev_const _ _) | (with_reducible exact Mem.ev_zero _ _ _) | (with_reducible (apply Eq.trans (Mem.ev_tmp _ _ _)); simp only [List.getD_cons_succ, List.getD_cons_zero] <;> rfl)) (by first | (with_reducible exact Mem.ev_const _ _) | (with_reducible exact Mem.ev_zero _ _ _) | (with_reducible (apply Eq.trans (Mem.ev_tmp _ _ _)); simp only [List.getD_cons_succ, List.getD_cons_zero] <;> rfl)) ?_) | (refine plan_pick_f _ _ _ _ (by rfl) (by rfl) (by rfl) (by first | (with_reducible exact Mem.ev_const _ _) | (with_reducible exact Mem.ev_zero _ _ _) | (with_reducible (apply Eq.trans (Mem.ev_tmp _ _ _)); simp only [List.getD_cons_succ, List.getD_cons_zero] <;> rfl)) (by first | (with_reducible exact Mem.ev_const _ _) | (with_reducible exact Mem.ev_zero _ _ _) | (with_reducible (apply Eq.trans (Mem.ev_tmp _ _ _)); simp only [List.getD_cons_succ, List.getD_cons_zero] <;> rfl)) ?_))
      (simp only [Act.put, List.setIfInBounds_toArray, List.set_cons_zero, List.set_cons_succ])
      refine plan_field 39 _ 1 w.heap.size 0 ⟨w.heap.size, 1, none⟩ (by rfl) (by rfl) (by rfl) (by first | (with_reducible exact Mem.ev_const _ _) | (with_reducible exact Mem.ev_zero _ _ _) | (with_reducible (apply Eq.trans (Mem.ev_tmp _ _ _)); simp only [List.getD_cons_succ, List.getD_cons_zero] <;> rfl)) (fun wx => by go_simp) ?_
      (simp only [Act.put, List.setIfInBounds_toArray, List.set_cons_zero, List.set_cons_succ])
      refine plan_cell 3 _ _ (.int .i64 x.n) _ (by rfl) (by rfl) (by rfl) (by first | (with_reducible exact Mem.ev_const _ _) | (with_reducible exact Mem.ev_zero _ _ _) | (with_reducible (apply Eq.trans (Mem.ev_tmp _ _ _)); simp only [List.getD_cons_succ, List.getD_cons_zero] <;> rfl)) (fun w' hw' => (hw'.cell (p := ⟨w.heap.size, 1, none⟩) L5.out).trans C1.out) Try.underlying3 (by rfl) ?_
      (simp only [Act.put, List.setIfInBounds_toArray, List.set_cons_zero, List.set_cons_succ])
      refine plan_call 21 _ _ _ (by kernel_rfl) (by rfl) (by rfl) (by rfl) (by simp only [List.map_toArray, List.map_cons, List.map_nil] <;> rfl) ?_
      refine (BL1.out _).mono ?_
      rintro e w6 ⟨g, rfl, _, _, hb⟩
      rw [List.length_replicate]
      have B6 : Hid (Below w5.heap.size w5 w6) := (Below.refl _ _).drew.trans hb
      have D6 := Lib.hid (D5.out.below B6.out)
      clear hb
      refine ⟨_, rfl, B6.out, ?_⟩
      (simp only [Act.put, List.setIfInBounds_toArray, List.set_cons_zero, List.set_cons_succ])
      refine plan_call 20 _ _ _ (by kernel_rfl) (by rfl) (by rfl) (by rfl) (by first | exact Mem.ev_none _ | (simp only [List.map_toArray, List.map_cons, List.map_nil, Mem.ev_tmp, List.getD_cons_succ, List.getD_cons_zero] <;> rfl)) ?_
      refine (dwrite_any D6.out x.n _).mono ?_
      rintro o w' ⟨rfl, rfl⟩
      refine ⟨_, rfl, B6.out, ?_⟩
      (simp only [Act.put, List.setIfInBounds_toArray, List.set_cons_zero, List.set_cons_succ])
      refine plan_bin _ _ _ _ _ _ _ _ (by rfl) (by rfl) (by rfl) (by first | (with_reducible exact Mem.ev_const _ _) | (with_reducible exact Mem.ev_zero _ _ _) | (with_reducible (apply Eq.trans (Mem.ev_tmp _ _ _)); simp only [List.getD_cons_succ, List.getD_cons_zero] <;> rfl)) (by first | (with_reducible exact Mem.ev_const _ _) | (with_reducible exact Mem.ev_zero _ _ _) | (with_reducible (apply Eq.trans (Mem.ev_tmp _ _ _)); simp only [List.getD_cons_succ, List.getD_cons_zero] <;> rfl)) (fun wx => (by go_simp : (do eqGuard .neq 24 _ _ (.int .i64 2) (.int .i64 2); Go.binOp .neq 24 (.int .i64 2) (.int .i64 2) : Sem Value).run Try.prog wx = .ok (.bool false) wx)) ?_
      (simp only [Act.put, List.setIfInBounds_toArray, List.set_cons_zero, List.set_cons_succ])
      refine plan_pick_f _ _ _ _ (by rfl) (by rfl) (by rfl) (by first | (with_reducible exact Mem.ev_const _ _) | (with_reducible exact Mem.ev_zero _ _ _) | (with_reducible (apply Eq.trans (Mem.ev_tmp _ _ _)); simp only [List.getD_cons_succ, List.getD_cons_zero] <;> rfl)) (by first | (with_reducible exact Mem.ev_const _ _) | (with_reducible exact Mem.ev_zero _ _ _) | (with_reducible (apply Eq.trans (Mem.ev_tmp _ _ _)); simp only [List.getD_cons_succ, List.getD_cons_zero] <;> rfl)) ?_
      (simp only [Act.put, List.setIfInBounds_toArray, List.set_cons_zero, List.set_cons_succ])
      (first | (refine plan_move _ _ (by rfl) (by rfl) (.inl (by rfl)) (by first | (with_reducible exact Mem.ev_const _ _) | (with_reducible exact Mem.ev_zero _ _ _) | (with_reducible (apply Eq.trans (Mem.ev_tmp _ _ _)); simp only [List.getD_cons_succ, List.getD_cons_zero] <;> rfl)) ?_) | (refine plan_move _ _ (by rfl) (by rfl) (.inr (by rfl)) (by first | (with_reducible exact Mem.ev_const _ _) | (with_reducible exact Mem.ev_zero _ _ _) | (with_reducible (apply Eq.trans (Mem.ev_tmp _ _ _)); simp only [List.getD_cons_succ, List.getD_cons_zero] <;> rfl)) ?_) | (refine plan_pick_t _ _ _ _ (by rfl) (by rfl) (by rfl) (by first | (with_reducible exact Mem.ev_const _ _) | (with_reducible exact Mem.ev_zero _ _ _) | (with_reducible (apply Eq.trans (Mem.ev_tmp _ _ _)); simp only [List.getD_cons_succ, List.getD_cons_zero] <;> rfl)) (by first | (with_reducible exact Mem.ev_const _ _) | (with_reducible exact Mem.ev_zero _ _ _) | (with_reducible (apply Eq.trans (Mem.ev_tmp _ _ _)); simp only [List.getD_cons_succ, List.getD_cons_zero] <;> rfl)) ?_) | (refine plan_pick_f _ _ _ _ (by rfl) (by rfl) (by rfl) (by first | (with_reducible exact Mem.ev_const _ _) | (with_reducible exact Mem.ev_zero _ _ _) | (with_reducible (apply Eq.trans (Mem.ev_tmp _ _ _)); simp only [List.getD_cons_succ, List.getD_cons_zero] <;> rfl)) (by first | (with_reducible exact Mem.ev_const _ _) | (with_reducible exact Mem.ev_zero _ _ _) | (with_reducible (apply Eq.trans (Mem.ev_tmp _ _ _)); simp only [List.getD_cons_succ, List.getD_cons_zero] <;> rfl)) ?_))
      (simp only [Act.put, List.setIfInBounds_toArray, List.set_cons_zero, List.set_cons_succ])
      (first | (refine plan_move _ _ (by rfl) (by rfl) (.inl (by rfl)) (by first | (with_reducible exact Mem.ev_const _ _) | (with_reducible exact Mem.ev_zero _ _ _) | (with_reducible (apply Eq.trans (Mem.ev_tmp _ _ _)); simp only [List.getD_cons_succ, List.getD_cons_zero] <;> rfl)) ?_) | (refine plan_move _ _ (by rfl) (by rfl) (.inr (by rfl)) (by first | (with_reducible exact Mem.ev_const _ _) | (with_reducible exact Mem.ev_zero _ _ _) | (with_reducible (apply Eq.trans (Mem.ev_tmp _ _ _)); simp only [List.getD_cons_succ, List.getD_cons_zero] <;> rfl)) ?_) | (refine plan_pick_t _ _ _ _ (by rfl) (by rfl) (by rfl) (by first | (with_reducible exact Mem.ev_const _ _) | (with_reducible exact Mem.ev_zero _ _ _) | (with_reducible (apply Eq.trans (Mem.ev_tmp _ _ _)); simp only [List.getD_cons_succ, List.getD_cons_zero] <;> rfl)) (by first | (with_reducible exact Mem.ev_const _ _) | (with_reducible exact Mem.ev_zero _ _ _) | (with_reducible (apply Eq.trans (Mem.ev_tmp _ _ _)); simp only [List.getD_cons_succ, List.getD_cons_zero] <;> rfl)) ?_) | (refine plan_pick_f _ _ _ _ (by rfl) (by rfl) (by rfl) (by first | (with_reducible exact Mem.ev_const _ _) | (with_reducible exact Mem.ev_zero _ _ _) | (with_reducible (apply Eq.trans (Mem.ev_tmp _ _ _)); simp only [List.getD_cons_succ, List.getD_cons_zero] <;> rfl)) (by first | (with_reducible exact Mem.ev_const _ _) | (with_reducible exact Mem.ev_zero _ _ _) | (with_reducible (apply Eq.trans (Mem.ev_tmp _ _ _)); simp only [List.getD_cons_succ, List.getD_cons_zero] <;> rfl)) ?_))
      (simp only [Act.put, List.setIfInBounds_toArray, List.set_cons_zero, List.set_cons_succ])
      refine plan_field 39 _ 1 w.heap.size 0 ⟨w.heap.size, 1, none⟩ (by rfl) (by rfl) (by rfl) (by first | (with_reducible exact Mem.ev_const _ _) | (with_reducible exact Mem.ev_zero _ _ _) | (with_reducible (apply Eq.trans (Mem.ev_tmp _ _ _)); simp only [List.getD_cons_succ, List.getD_cons_zero] <;> rfl)) (fun wx => by go_simp) ?_
      (simp only [Act.put, List.setIfInBounds_toArray, List.set_cons_zero, List.set_cons_succ])
      refine plan_cell 3 _ _ (.int .i64 x.n) _ (by rfl) (by rfl) (by rfl) (by first | (with_reducible exact Mem.ev_const _ _) | (with_reducible exact Mem.ev_zero _ _ _) | (with_reducible (apply Eq.trans (Mem.ev_tmp _ _ _)); simp only [List.getD_cons_succ, List.getD_cons_zero] <;> rfl)) (fun w' hw' => (hw'.cell (p := ⟨w.heap.size, 1, none⟩) L5.out).trans C1.out) Try.underlying3 (by rfl) ?_
      (simp only [Act.put, List.setIfInBounds_toArray, List.set_cons_zero, List.set_cons_succ])
      refine plan_field 39 _ 2 w.heap.size 0 ⟨w.heap.size, 2, none⟩ (by rfl) (by rfl) (by rfl) (by first | (with_reducible exact Mem.ev_const _ _) | (with_reducible exact Mem.ev_zero _ _ _) | (with_reducible (apply Eq.trans (Mem.ev_tmp _ _ _)); simp only [List.getD_cons_succ, List.getD_cons_zero] <;> rfl)) (fun wx => by go_simp) ?_
      (simp only [Act.put, List.setIfInBounds_toArray, List.set_cons_zero, List.set_cons_succ])
      refine plan_cell 3 _ _ (.int .i64 x.a) _ (by rfl) (by rfl) (by rfl) (by first | (with_reducible exact Mem.ev_const _ _) | (with_reducible exact Mem.ev_zero _ _ _) | (with_reducible (apply Eq.trans (Mem.ev_tmp _ _ _)); simp only [List.getD_cons_succ, List.getD_cons_zero] <;> rfl)) (fun w' hw' => (hw'.cell (p := ⟨w.heap.size, 2, none⟩) L5.out).trans C2.out) Try.underlying3 (by rfl) ?_
      (simp only [Act.put, List.setIfInBounds_toArray, List.set_cons_zero, List.set_cons_succ])
      refine plan_call 24 _ _ _ (by kernel_rfl) (by rfl) (by rfl) (by rfl) (by first | exact Mem.ev_none _ | (simp only [List.map_toArray, List.map_cons, List.map_nil, Mem.ev_tmp, List.getD_cons_succ, List.getD_cons_zero] <;> rfl)) ?_
      refine (dtamper_any D6.out x.n x.a _).mono ?_
      rintro o w' ⟨rfl, rfl⟩
      refine ⟨_, rfl, B6.out, ?_⟩
      (simp only [Act.put, List.setIfInBounds_toArray, List.set_cons_zero, List.set_cons_succ])
      refine plan_bin _ _ _ _ _ _ _ _ (by rfl) (by rfl) (by rfl) (by first | (with_reducible exact Mem.ev_const _ _) | (with_reducible exact Mem.ev_zero _ _ _) | (with_reducible (apply Eq.trans (Mem.ev_tmp _ _ _)); simp only [List.getD_cons_succ, List.getD_cons_zero] <;> rfl)) (by first | (with_reducible exact Mem.ev_const _ _) | (with_reducible exact Mem.ev_zero _ _ _) | (with_reducible (apply Eq.trans (Mem.ev_tmp _ _ _)); simp only [List.getD_cons_succ, List.getD_cons_zero] <;> rfl)) (fun wx => (by go_simp : (do eqGuard .neq 24 _ _ (.int .i64 2) (.int .i64 2); Go.binOp .neq 24 (.int .i64 2) (.int .i64 2) : Sem Value).run Try.prog wx = .ok (.bool false) wx)) ?_
      (simp only [Act.put, List.setIfInBounds_toArray, List.set_cons_zero, List.set_cons_succ])
      refine plan_pick_f _ _ _ _ (by rfl) (by rfl) (by rfl) (by first | (with_reducible exact Mem.ev_const _ _) | (with_reducible exact Mem.ev_zero _ _ _) | (with_reducible (apply Eq.trans (Mem.ev_tmp _ _ _)); simp only [List.getD_cons_succ, List.getD_cons_zero] <;> rfl)) (by first | (with_reducible exact Mem.ev_const _ _) | (with_reducible exact Mem.ev_zero _ _ _) | (with_reducible (apply Eq.trans (Mem.ev_tmp _ _ _)); simp only [List.getD_cons_succ, List.getD_cons_zero] <;> rfl)) ?_
      (simp only [Act.put, List.setIfInBounds_toArray, List.set_cons_zero, List.set_cons_succ])
      (first | (refine plan_move _ _ (by rfl) (by rfl) (.inl (by rfl)) (by first | (with_reducible exact Mem.ev_const _ _) | (with_reducible exact Mem.ev_zero _ _ _) | (with_reducible (apply Eq.trans (Mem.ev_tmp _ _ _)); simp only [List.getD_cons_succ, List.getD_cons_zero] <;> rfl)) ?_) | (refine plan_move _ _ (by rfl) (by rfl) (.inr (by rfl)) (by first | (with_reducible exact Mem.ev_const _ _) | (with_reducible exact Mem.ev_zero _ _ _) | (with_reducible (apply Eq.trans (Mem.ev_tmp _ _ _)); simp only [List.getD_cons_succ, List.getD_cons_zero] <;> rfl)) ?_) | (refine plan_pick_t _ _ _ _ (by rfl) (by rfl) (by rfl) (by first | (with_reducible exact Mem.ev_const _ _) | (with_reducible exact Mem.ev_zero _ _ _) | (with_reducible (apply Eq.trans (Mem.ev_tmp _ _ _)); simp only [List.getD_cons_succ, List.getD_cons_zero] <;> rfl)) (by first | (with_reducible exact Mem.ev_const _ _) | (with_reducible exact Mem.ev_zero _ _ _) | (with_reducible (apply Eq.trans (Mem.ev_tmp _ _ _)); simp only [List.getD_cons_succ, List.getD_cons_zero] <;> rfl)) ?_) | (refine plan_pick_f _ _ _ _ (by rfl) (by rfl) (by rfl) (by first | (with_reducible exact Mem.ev_const _ _) | (with_reducible exact Mem.ev_zero _ _ _) | (with_reducible (apply Eq.trans (Mem.ev_tmp _ _ _)); simp only [List.getD_cons_succ, List.getD_cons_zero] <;> rfl)) (by first | (with_reducible exact Mem.ev_const _ _) | (with_reducible exact Mem.ev_zero _ _ _) | (with_reducible (apply Eq.trans (Mem.ev_tmp _ _ _)); simp only [List.getD_cons_succ, List.getD_cons_zero] <;> rfl)) ?_))
      (simp only [Act.put, List.setIfInBounds_toArray, List.set_cons_zero, List.set_cons_succ])
      (first | (refine plan_move _ _ (by rfl) (by rfl) (.inl (by rfl)) (by first | (with_reducible exact Mem.ev_const _ _) | (with_reducible exact Mem.ev_zero _ _ _) | (with_reducible (apply Eq.trans (Mem.ev_tmp _ _ _)); simp only [List.getD_cons_succ, List.getD_cons_zero] <;> rfl)) ?_) | (refine plan_move _ _ (by rfl) (by rfl) (.inr (by rfl)) (by first | (with_reducible exact Mem.ev_const _ _) | (with_reducible exact Mem.ev_zero _ _ _) | (with_reducible (apply Eq.trans (Mem.ev_tmp _ _ _)); simp only [List.getD_cons_succ, List.getD_cons_zero] <;> rfl)) ?_) | (refine plan_pick_t _ _ _ _ (by rfl) (by rfl) (by rfl) (by first | (with_reducible exact Mem.ev_const _ _) | (with_reducible exact Mem.ev_zero _ _ _) | (with_reducible (apply Eq.trans (Mem.ev_tmp _ _ _)); simp only [List.getD_cons_succ, List.getD_cons_zero] <;> rfl)) (by first | (with_reducible exact Mem.ev_const _ _) | (with_reducible exact Mem.ev_zero _ _ _) | (with_reducible (apply Eq.trans (Mem.ev_tmp _ _ _)); simp only [List.getD_cons_succ, List.getD_cons_zero] <;> rfl)) ?_) | (refine plan_pick_f _ _ _ _ (by rfl) (by rfl) (by rfl) (by first | (with_reducible exact Mem.ev_const _ _) | (with_reducible exact Mem.ev_zero _ _ _) | (with_reducible (apply Eq.trans (Mem.ev_tmp _ _ _)); simp only [List.getD_cons_succ, List.getD_cons_zero] <;> rfl)) (by first | (with_reducible exact Mem.ev_const _ _) | (with_reducible exact Mem.ev_zero _ _ _) | (with_reducible (apply Eq.trans (Mem.ev_tmp _ _ _)); simp only [List.getD_cons_succ, List.getD_cons_zero] <;> rfl)) ?_))
      (simp only [Act.put, List.setIfInBounds_toArray, List.set_cons_zero, List.set_cons_succ])
      refine plan_field 39 _ 2 w.heap.size 0 ⟨w.heap.size, 2, none⟩ (by rfl) (by rfl) (by rfl) (by first | (with_reducible exact Mem.ev_const _ _) | (with_reducible exact Mem.ev_zero _ _ _) | (with_reducible (apply Eq.trans (Mem.ev_tmp _ _ _)); simp only [List.getD_cons_succ, List.getD_cons_zero] <;> rfl)) (fun wx => by go_simp) ?_
      (simp only [Act.put, List.setIfInBounds_toArray, List.set_cons_zero, List.set_cons_succ])
      refine plan_cell 3 _ _ (.int .i64 x.a) _ (by rfl) (by rfl) (by rfl) (by first | (with_reducible exact Mem.ev_const _ _) | (with_reducible exact Mem.ev_zero _ _ _) | (with_reducible (apply Eq.trans (Mem.ev_tmp _ _ _)); simp only [List.getD_cons_succ, List.getD_cons_zero] <;> rfl)) (fun w' hw' => (hw'.cell (p := ⟨w.heap.size, 2, none⟩) L5.out).trans C2.out) Try.underlying3 (by rfl) ?_
      (simp only [Act.put, List.setIfInBounds_toArray, List.set_cons_zero, List.set_cons_succ])
      refine plan_call 25 _ _ _ (by kernel_rfl) (by rfl) (by rfl) (by rfl) (by first | exact Mem.ev_none _ | (simp only [List.map_toArray, List.map_cons, List.map_nil, Mem.ev_tmp, List.getD_cons_succ, List.getD_cons_zero] <;> rfl)) ?_
      refine (drestore_any D6.out x.a).mono ?_
      rintro o w' ⟨rfl, rfl⟩
      refine ⟨_, rfl, B6.out, ?_⟩
      (simp only [Act.put, List.setIfInBounds_toArray, List.set_cons_zero, List.set_cons_succ])
      refine plan_bin _ _ _ _ _ _ _ _ (by rfl) (by rfl) (by rfl) (by first | (with_reducible exact Mem.ev_const _ _) | (with_reducible exact Mem.ev_zero _ _ _) | (with_reducible (apply Eq.trans (Mem.ev_tmp _ _ _)); simp only [List.getD_cons_succ, List.getD_cons_zero] <;> rfl)) (by first | (with_reducible exact Mem.ev_const _ _) | (with_reducible exact Mem.ev_zero _ _ _) | (with_reducible (apply Eq.trans (Mem.ev_tmp _ _ _)); simp only [List.getD_cons_succ, List.getD_cons_zero] <;> rfl)) (fun wx => (by go_simp : (do eqGuard .neq 24 _ _ (.int .i64 2) (.int .i64 2); Go.binOp .neq 24 (.int .i64 2) (.int .i64 2) : Sem Value).run Try.prog wx = .ok (.bool false) wx)) ?_
      (simp only [Act.put, List.setIfInBounds_toArray, List.set_cons_zero, List.set_cons_succ])
      refine plan_pick_f _ _ _ _ (by rfl) (by rfl) (by rfl) (by first | (with_reducible exact Mem.ev_const _ _) | (with_reducible exact Mem.ev_zero _ _ _) | (with_reducible (apply Eq.trans (Mem.ev_tmp _ _ _)); simp only [List.getD_cons_succ, List.getD_cons_zero] <;> rfl)) (by first | (with_reducible exact Mem.ev_const _ _) | (with_reducible exact Mem.ev_zero _ _ _) | (with_reducible (apply Eq.trans (Mem.ev_tmp _ _ _)); simp only [List.getD_cons_succ, List.getD_cons_zero] <;> rfl)) ?_
      (simp only [Act.put, List.setIfInBounds_toArray, List.set_cons_zero, List.set_cons_succ])
      (first | (refine plan_move _ _ (by rfl) (by rfl) (.inl (by rfl)) (by first | (with_reducible exact Mem.ev_const _ _) | (with_reducible exact Mem.ev_zero _ _ _) | (with_reducible (apply Eq.trans (Mem.ev_tmp _ _ _)); simp only [List.getD_cons_succ, List.getD_cons_zero] <;> rfl)) ?_) | (refine plan_move _ _ (by rfl) (by rfl) (.inr (by rfl)) (by first | (with_reducible exact Mem.ev_const _ _) | (with_reducible exact Mem.ev_zero _ _ _) | (with_reducible (apply Eq.trans (Mem.ev_tmp _ _ _)); simp only [List.getD_cons_succ, List.getD_cons_zero] <;> rfl)) ?_) | (refine plan_pick_t _ _ _ _ (by rfl) (by rfl) (by rfl) (by first | (with_reducible exact Mem.ev_const _ _) | (with_reducible exact Mem.ev_zero _ _ _) | (with_reducible (apply Eq.trans (Mem.ev_tmp _ _ _)); simp only [List.getD_cons_succ, List.getD_cons_zero] <;> rfl)) (by first | (with_reducible exact Mem.ev_const _ _) | (with_reducible exact Mem.ev_zero _ _ _) | (with_reducible (apply Eq.trans (Mem.ev_tmp _ _ _)); simp only [List.getD_cons_succ, List.getD_cons_zero] <;> rfl)) ?_) | (refine plan_pick_f _ _ _ _ (by rfl) (by rfl) (by rfl) (by first | (with_reducible exact Mem.ev_const _ _) | (with_reducible exact Mem.ev_zero _ _ _) | (with_reducible (apply Eq.trans (Mem.ev_tmp _ _ _)); simp only [List.getD_cons_succ, List.getD_cons_zero] <;> rfl)) (by first | (with_reducible exact Mem.ev_const _ _) | (with_reducible exact Mem.ev_zero _ _ _) | (with_reducible (apply Eq.trans (Mem.ev_tmp _ _ _)); simp only [List.getD_cons_succ, List.getD_cons_zero] <;> rfl)) ?_))
      (simp only [Act.put, List.setIfInBounds_toArray, List.set_cons_zero, List.set_cons_succ])
      (first | (refine plan_move _ _ (by rfl) (by rfl) (.inl (by rfl)) (by first | (with_reducible exact Mem.ev_const _ _) | (with_reducible exact Mem.ev_zero _ _ _) | (with_reducible (apply Eq.trans (Mem.ev_tmp _ _ _)); simp only [List.getD_cons_succ, List.getD_cons_zero] <;> rfl)) ?_) | (refine plan_move _ _ (by rfl) (by rfl) (.inr (by rfl)) (by first | (with_reducible exact Mem.ev_const _ _) | (with_reducible exact Mem.ev_zero _ _ _) | (with_reducible (apply Eq.trans (Mem.ev_tmp _ _ _)); simp only [List.getD_cons_succ, List.getD_cons_zero] <;> rfl)) ?_) | (refine plan_pick_t _ _ _ _ (by rfl) (by rfl) (by rfl) (by first | (with_reducible exact Mem.ev_const _ _) | (with_reducible exact Mem.ev_zero _ _ _) | (with_reducible (apply Eq.trans (Mem.ev_tmp _ _ _)); simp only [List.getD_cons_succ, List.getD_cons_zero] <;> rfl)) (by first | (with_reducible exact Mem.ev_const _ _) | (with_reducible exact Mem.ev_zero _ _ _) | (with_reducible (apply Eq.trans (Mem.ev_tmp _ _ _)); simp only [List.getD_cons_succ, List.getD_cons_zero] <;> rfl)) ?_) | (refine plan_pick_f _ _ _ _ (by rfl) (by rfl) (by rfl) (by first | (with_reducible exact Mem.ev_const _ _) | (with_reducible exact Mem.ev_zero _ _ _) | (with_reducible (apply Eq.trans (Mem.ev_tmp _ _ _)); simp only [List.getD_cons_succ, List.getD_cons_zero] <;> rfl)) (by first | (with_reducible exact Mem.ev_const _ _) | (with_reducible exact Mem.ev_zero _ _ _) | (with_reducible (apply Eq.trans (Mem.ev_tmp _ _ _)); simp only [List.getD_cons_succ, List.getD_cons_zero] <;> rfl)) ?_))
      (simp only [Act.put, List.setIfInBounds_toArray, List.set_cons_zero, List.set_cons_succ])
      (first | (refine plan_move _ _ (by rfl) (by rfl) (.inl (by rfl)) (by first | (with_reducible exact Mem.ev_const _ _) | (with_reducible exact Mem.ev_zero _ _ _) | (with_reducible (apply Eq.trans (Mem.ev_tmp _ _ _)); simp only [List.getD_cons_succ, List.getD_cons_zero] <;> rfl)) ?_) | (refine plan_move _ _ (by rfl) (by rfl) (.inr (by rfl)) (by first | (with_reducible exact Mem.ev_const _ _) | (with_reducible exact Mem.ev_zero _ _ _) | (with_reducible (apply Eq.trans (Mem.ev_tmp _ _ _)); simp only [List.getD_cons_succ, List.getD_cons_zero] <;> rfl)) ?_) | (refine plan_pick_t _ _ _ _ (by rfl) (by rfl) (by rfl) (by first | (with_reducible exact Mem.ev_const _ _) | (with_reducible exact Mem.ev_zero _ _ _) | (with_reducible (apply Eq.trans (Mem.ev_tmp _ _ _)); simp only [List.getD_cons_succ, List.getD_cons_zero] <;> rfl)) (by first | (with_reducible exact Mem.ev_const _ _) | (with_reducible exact Mem.ev_zero _ _ _) | (with_reducible (apply Eq.trans (Mem.ev_tmp _ _ _)); simp only [List.getD_cons_succ, List.getD_cons_zero] <;> rfl)) ?_) | (refine plan_pick_f _ _ _ _ (by rfl) (by rfl) (by rfl) (by first | (with_reducible exact Mem.ev_const _ _) | (with_reducible exact Mem.ev_zero _ _ _) | (with_reducible (apply Eq.trans (Mem.ev_tmp _ _ _)); simp only [List.getD_cons_succ, List.getD_cons_zero] <;> rfl)) (by first | (with_reducible exact Mem.ev_const _ _) | (with_reducible exact Mem.ev_zero _ _ _) | (with_reducible (apply Eq.trans (Mem.ev_tmp _ _ _)); simp only [List.getD_cons_succ, List.getD_cons_zero] <;> rfl)) ?_))
      (simp only [Act.put, List.setIfInBounds_toArray, List.set_cons_zero, List.set_cons_succ])
      (first | (refine plan_move _ _ (by rfl) (by rfl) (.inl (by rfl)) (by first | (with_reducible exact Mem.ev_const _ _) | (with_reducible exact Mem.ev_zero _ _ _) | (with_reducible (apply Eq.trans (Mem.ev_tmp _ _ _)); simp only [List.getD_cons_succ, List.getD_cons_zero] <;> rfl)) ?_) | (refine plan_move _ _ (by rfl) (by rfl) (.inr (by rfl)) (by first | (with_reducible exact Mem.ev_const _ _) | (with_reducible exact Mem.ev_zero _ _ _) | (with_reducible (apply Eq.trans (Mem.ev_tmp _ _ _)); simp only [List.getD_cons_succ, List.getD_cons_zero] <;> rfl)) ?_) | (refine plan_pick_t _ _ _ _ (by rfl) (by rfl) (by rfl) (by first | (with_reducible exact Mem.ev_const _ _) | (with_reducible exact Mem.ev_zero _ _ _) | (with_reducible (apply Eq.trans (Mem.ev_tmp _ _ _)); simp only [List.getD_cons_succ, List.getD_cons_zero] <;> rfl)) (by first | (with_reducible exact Mem.ev_const _ _) | (with_reducible exact Mem.ev_zero _ _ _) | (with_reducible (apply Eq.trans (Mem.ev_tmp _ _ _)); simp only [List.getD_cons_succ, List.getD_cons_zero] <;> rfl)) ?_) | (refine plan_pick_f _ _ _ _ (by rfl) (by rfl) (by rfl) (by first | (with_reducible exact Mem.ev_const _ _) | (with_reducible exact Mem.ev_zero _ _ _) | (with_reducible (apply Eq.trans (Mem.ev_tmp _ _ _)); simp only [List.getD_cons_succ, List.getD_cons_zero] <;> rfl)) (by first | (with_reducible exact Mem.ev_const _ _) | (with_reducible exact Mem.ev_zero _ _ _) | (with_reducible (apply Eq.trans (Mem.ev_tmp _ _ _)); simp only [List.getD_cons_succ, List.getD_cons_zero] <;> rfl)) ?_))
      (simp only [Act.put, List.setIfInBounds_toArray, List.set_cons_zero, List.set_cons_succ])
      (first | (refine plan_move _ _ (by rfl) (by rfl) (.inl (by rfl)) (by first | (with_reducible exact Mem.ev_const _ _) | (with_reducible exact Mem.ev_zero _ _ _) | (with_reducible (apply Eq.trans (Mem.ev_tmp _ _ _)); simp only [List.getD_cons_succ, List.getD_cons_zero] <;> rfl)) ?_) | (refine plan_move _ _ (by rfl) (by rfl) (.inr (by rfl)) (by first | (with_reducible exact Mem.ev_const _ _) | (with_reducible exact Mem.ev_zero _ _ _) | (with_reducible (apply Eq.trans (Mem.ev_tmp _ _ _)); simp only [List.getD_cons_succ, List.getD_cons_zero] <;> rfl)) ?_) | (refine plan_pick_t _ _ _ _ (by rfl) (by rfl) (by rfl) (by first | (with_reducible exact Mem.ev_const _ _) | (with_reducible exact Mem.ev_zero _ _ _) | (with_reducible (apply Eq.trans (Mem.ev_tmp _ _ _)); simp only [List.getD_cons_succ, List.getD_cons_zero] <;> rfl)) (by first | (with_reducible exact Mem.ev_const _ _) | (with_reducible exact Mem.ev_zero _ _ _) | (with_reducible (apply Eq.trans (Mem.ev_tmp _ _ _)); simp only [List.getD_cons_succ, List.getD_cons_zero] <;> rfl)) ?_) | (refine plan_pick_f _ _ _ _ (by rfl) (by rfl) (by rfl) (by first | (with_reducible exact Mem.ev_const _ _) | (with_reducible exact Mem.ev_zero _ _ _) | (with_reducible (apply Eq.trans (Mem.ev_tmp _ _ _)); simp only [List.getD_cons_succ, List.getD_cons_zero] <;> rfl)) (by first | (with_reducible exact Mem.ev_const _ _) | (with_reducible exact Mem.ev_zero _ _ _) | (with_reducible (apply Eq.trans (Mem.ev_tmp _ _ _)); simp only [List.getD_cons_succ, List.getD_cons_zero] <;> rfl)) ?_))
      (simp only [Act.put, List.setIfInBounds_toArray, List.set_cons_zero, List.set_cons_succ])
      (first | (refine plan_move _ _ (by rfl) (by rfl) (.inl (by rfl)) (by first | (with_reducible exact Mem.ev_const _ _) | (with_reducible exact Mem.ev_zero _ _ _) | (with_reducible (apply Eq.trans (Mem.ev_tmp _ _ _)); simp only [List.getD_cons_succ, List.getD_cons_zero] <;> rfl)) ?_) | (refine plan_move _ _ (by rfl) (by rfl) (.inr (by rfl)) (by first | (with_reducible exact Mem.ev_const _ _) | (with_reducible exact Mem.ev_zero _ _ _) | (with_reducible (apply Eq.trans (Mem.ev_tmp _ _ _)); simp only [List.getD_cons_succ, List.getD_cons_zero] <;> rfl)) ?_) | (refine plan_pick_t _ _ _ _ (by rfl) (by rfl) (by rfl) (by first | (with_reducible exact Mem.ev_const _ _) | (with_reducible exact Mem.ev_zero _ _ _) | (with_reducible (apply Eq.trans (Mem.ev_tmp _ _ _)); simp only [List.getD_cons_succ, List.getD_cons_zero] <;> rfl)) (by first | (with_reducible exact Mem.ev_const _ _) | (with_reducible exact Mem.ev_zero _ _ _) | (with_reducible (apply Eq.trans (Mem.ev_tmp _ _ _)); simp only [List.getD_cons_succ, List.getD_cons_zero] <;> rfl)) ?_) | (refine plan_pick_f _ _ _ _ (by rfl) (by rfl) (by rfl) (by first | (with_reducible exact Mem.ev_const _ _) | (with_reducible exact Mem.ev_zero _ _ _) | (with_reducible (apply Eq.trans (Mem.ev_tmp _ _ _)); simp only [List.getD_cons_succ, List.getD_cons_zero] <;> rfl)) (by first | (with_reducible exact Mem.ev_const _ _) | (with_reducible exact Mem.ev_zero _ _ _) | (with_reducible (apply Eq.trans (Mem.ev_tmp _ _ _)); simp only [List.getD_cons_succ, List.getD_cons_zero] <;> rfl)) ?_))
      (simp only [Act.put, List.setIfInBounds_toArray, List.set_cons_zero, List.set_cons_succ])
      refine plan_call 18 _ _ _ (by kernel_rfl) (by rfl) (by rfl) (by rfl) (by first | exact Mem.ev_none _ | (simp only [List.map_toArray, List.map_cons, List.map_nil, Mem.ev_tmp, List.getD_cons_succ, List.getD_cons_zero] <;> rfl)) ?_
      refine (dflush_any D6.out).mono ?_
      rintro o w' ⟨rfl, rfl⟩
      refine ⟨_, rfl, B6.out, ?_⟩
      (simp only [Act.put, List.setIfInBounds_toArray, List.set_cons_zero, List.set_cons_succ])
      refine plan_call 12 _ _ _ (by kernel_rfl) (by rfl) (by rfl) (by rfl) (by first | exact Mem.ev_none _ | (simp only [List.map_toArray, List.map_cons, List.map_nil, Mem.ev_tmp, List.getD_cons_succ, List.getD_cons_zero] <;> rfl)) ?_
      refine (dlen_any D6.out).mono ?_
      rintro o w' ⟨rfl, rfl⟩
      refine ⟨_, rfl, B6.out, ?_⟩
      (simp only [Act.put, List.setIfInBounds_toArray, List.set_cons_zero, List.set_cons_succ])
      refine plan_bin _ _ _ _ _ _ _ _ (by rfl) (by rfl) (by rfl) (by first | (with_reducible exact Mem.ev_const _ _) | (with_reducible exact Mem.ev_zero _ _ _) | (with_reducible (apply Eq.trans (Mem.ev_tmp _ _ _)); simp only [List.getD_cons_succ, List.getD_cons_zero] <;> rfl)) (by first | (with_reducible exact Mem.ev_const _ _) | (with_reducible exact Mem.ev_zero _ _ _) | (with_reducible (apply Eq.trans (Mem.ev_tmp _ _ _)); simp only [List.getD_cons_succ, List.getD_cons_zero] <;> rfl)) (fun wx => o_iadd _ _ _ _ 0 0 0 (by decide) (by decide) (by decide) wx) ?_
      (simp only [Act.put, List.setIfInBounds_toArray, List.set_cons_zero, List.set_cons_succ])
      refine plan_call 17 _ _ _ (by kernel_rfl) (by rfl) (by rfl) (by rfl) (by first | exact Mem.ev_none _ | (simp only [List.map_toArray, List.map_cons, List.map_nil, Mem.ev_tmp, List.getD_cons_succ, List.getD_cons_zero] <;> rfl)) ?_
      refine (dwaiting_any D6.out).mono ?_
      rintro o w' ⟨rfl, rfl⟩
      refine ⟨_, rfl, B6.out, ?_⟩
      (simp only [Act.put, List.setIfInBounds_toArray, List.set_cons_zero, List.set_cons_succ])
      refine plan_len _ _ _ none 0 0 (by rfl) (by rfl) (by rfl) (by rfl) (by first | (with_reducible exact Mem.ev_const _ _) | (with_reducible exact Mem.ev_zero _ _ _) | (with_reducible (apply Eq.trans (Mem.ev_tmp _ _ _)); simp only [List.getD_cons_succ, List.getD_cons_zero] <;> rfl)) (fun wx => by go_simp) ?_
      (simp only [Act.put, List.setIfInBounds_toArray, List.set_cons_zero, List.set_cons_succ])
      refine plan_bin _ _ _ _ _ _ _ _ (by rfl) (by rfl) (by rfl) (by first | (with_reducible exact Mem.ev_const _ _) | (with_reducible exact Mem.ev_zero _ _ _) | (with_reducible (apply Eq.trans (Mem.ev_tmp _ _ _)); simp only [List.getD_cons_succ, List.getD_cons_zero] <;> rfl)) (by first | (with_reducible exact Mem.ev_const _ _) | (with_reducible exact Mem.ev_zero _ _ _) | (with_reducible (apply Eq.trans (Mem.ev_tmp _ _ _)); simp only [List.getD_cons_succ, List.getD_cons_zero] <;> rfl)) (fun wx => o_iadd _ _ _ _ 0 ((0 : Nat) : Int) 0 (by decide) (by decide) (by decide) wx) ?_
      (simp only [Act.put, List.setIfInBounds_toArray, List.set_cons_zero, List.set_cons_succ])
      refine plan_call 14 _ _ _ (by kernel_rfl) (by rfl) (by rfl) (by rfl) (by first | exact Mem.ev_none _ | (simp only [List.map_toArray, List.map_cons, List.map_nil, Mem.ev_tmp, List.getD_cons_succ, List.getD_cons_zero] <;> rfl)) ?_
      refine (dbytes_any D6.out).mono ?_
      rintro o w' ⟨rfl, rfl⟩
      refine ⟨_, rfl, B6.out, ?_⟩
      (simp only [Act.put, List.setIfInBounds_toArray, List.set_cons_zero, List.set_cons_succ])
      refine plan_len _ _ _ none 0 0 (by rfl) (by rfl) (by rfl) (by rfl) (by first | (with_reducible exact Mem.ev_const _ _) | (with_reducible exact Mem.ev_zero _ _ _) | (with_reducible (apply Eq.trans (Mem.ev_tmp _ _ _)); simp only [List.getD_cons_succ, List.getD_cons_zero] <;> rfl)) (fun wx => by go_simp) ?_
      (simp only [Act.put, List.setIfInBounds_toArray, List.set_cons_zero, List.set_cons_succ])
      refine plan_bin _ _ _ _ _ _ _ _ (by rfl) (by rfl) (by rfl) (by first | (with_reducible exact Mem.ev_const _ _) | (with_reducible exact Mem.ev_zero _ _ _) | (with_reducible (apply Eq.trans (Mem.ev_tmp _ _ _)); simp only [List.getD_cons_succ, List.getD_cons_zero] <;> rfl)) (by first | (with_reducible exact Mem.ev_const _ _) | (with_reducible exact Mem.ev_zero _ _ _) | (with_reducible (apply Eq.trans (Mem.ev_tmp _ _ _)); simp only [List.getD_cons_succ, List.getD_cons_zero] <;> rfl)) (fun wx => o_iadd _ _ _ _ 0 ((0 : Nat) : Int) 0 (by decide) (by decide) (by decide) wx) ?_
      (simp only [Act.put, List.setIfInBounds_toArray, List.set_cons_zero, List.set_cons_succ])
      refine plan_call 16 _ _ _ (by kernel_rfl) (by rfl) (by rfl) (by rfl) (by first | exact Mem.ev_none _ | (simp only [List.map_toArray, List.map_cons, List.map_nil, Mem.ev_tmp, List.getD_cons_succ, List.getD_cons_zero] <;> rfl)) ?_
      refine (dtrace_any D6.out).mono ?_
      rintro o w' ⟨rfl, rfl⟩
      refine ⟨_, rfl, B6.out, ?_⟩
      (simp only [Act.put, List.setIfInBounds_toArray, List.set_cons_zero, List.set_cons_succ])
      refine plan_len _ _ _ none 0 0 (by rfl) (by rfl) (by rfl) (by rfl) (by first | (with_reducible exact Mem.ev_const _ _) | (with_reducible exact Mem.ev_zero _ _ _) | (with_reducible (apply Eq.trans (Mem.ev_tmp _ _ _)); simp only [List.getD_cons_succ, List.getD_cons_zero] <;> rfl)) (fun wx => by go_simp) ?_
      (simp only [Act.put, List.setIfInBounds_toArray, List.set_cons_zero, List.set_cons_succ])
      refine plan_bin _ _ _ _ _ _ _ _ (by rfl) (by rfl) (by rfl) (by first | (with_reducible exact Mem.ev_const _ _) | (with_reducible exact Mem.ev_zero _ _ _) | (with_reducible (apply Eq.trans (Mem.ev_tmp _ _ _)); simp only [List.getD_cons_succ, List.getD_cons_zero] <;> rfl)) (by first | (with_reducible exact Mem.ev_const _ _) | (with_reducible exact Mem.ev_zero _ _ _) | (with_reducible (apply Eq.trans (Mem.ev_tmp _ _ _)); simp only [List.getD_cons_succ, List.getD_cons_zero] <;> rfl)) (fun wx => o_iadd _ _ _ _ 0 ((0 : Nat) : Int) 0 (by decide) (by decide) (by decide) wx) ?_
      (simp only [Act.put, List.setIfInBounds_toArray, List.set_cons_zero, List.set_cons_succ])
      refine plan_bin _ _ _ _ _ _ _ _ (by rfl) (by rfl) (by rfl) (by first | (with_reducible exact Mem.ev_const _ _) | (with_reducible exact Mem.ev_zero _ _ _) | (with_reducible (apply Eq.trans (Mem.ev_tmp _ _ _)); simp only [List.getD_cons_succ, List.getD_cons_zero] <;> rfl)) (by first | (with_reducible exact Mem.ev_const _ _) | (with_reducible exact Mem.ev_zero _ _ _) | (with_reducible (apply Eq.trans (Mem.ev_tmp _ _ _)); simp only [List.getD_cons_succ, List.getD_cons_zero] <;> rfl)) (fun wx => (by go_simp : (do eqGuard .neq 3 _ _ (.int .i64 0) (.int .i64 0); Go.binOp .neq 3 (.int .i64 0) (.int .i64 0) : Sem Value).run Try.prog wx = .ok (.bool false) wx)) ?_
      (simp only [Act.put, List.setIfInBounds_toArray, List.set_cons_zero, List.set_cons_succ])
      refine plan_pick_f _ _ _ _ (by rfl) (by rfl) (by rfl) (by first | (with_reducible exact Mem.ev_const _ _) | (with_reducible exact Mem.ev_zero _ _ _) | (with_reducible (apply Eq.trans (Mem.ev_tmp _ _ _)); simp only [List.getD_cons_succ, List.getD_cons_zero] <;> rfl)) (by first | (with_reducible exact Mem.ev_const _ _) | (with_reducible exact Mem.ev_zero _ _ _) | (with_reducible (apply Eq.trans (Mem.ev_tmp _ _ _)); simp only [List.getD_cons_succ, List.getD_cons_zero] <;> rfl)) ?_
      (simp only [Act.put, List.setIfInBounds_toArray, List.set_cons_zero, List.set_cons_succ])
      (first | (refine plan_move _ _ (by rfl) (by rfl) (.inl (by rfl)) (by first | (with_reducible exact Mem.ev_const _ _) | (with_reducible exact Mem.ev_zero _ _ _) | (with_reducible (apply Eq.trans (Mem.ev_tmp _ _ _)); simp only [List.getD_cons_succ, List.getD_cons_zero] <;> rfl)) ?_) | (refine plan_move _ _ (by rfl) (by rfl) (.inr (by rfl)) (by first | (with_reducible exact Mem.ev_const _ _) | (with_reducible exact Mem.ev_zero _ _ _) | (with_reducible (apply Eq.trans (Mem.ev_tmp _ _ _)); simp only [List.getD_cons_succ, List.getD_cons_zero] <;> rfl)) ?_) | (refine plan_pick_t _ _ _ _ (by rfl) (by rfl) (by rfl) (by first | (with_reducible exact Mem.ev_const _ _) | (with_reducible exact Mem.ev_zero _ _ _) | (with_reducible (apply Eq.trans (Mem.ev_tmp _ _ _)); simp only [List.getD_cons_succ, List.getD_cons_zero] <;> rfl)) (by first | (with_reducible exact Mem.ev_const _ _) | (with_reducible exact Mem.ev_zero _ _ _) | (with_reducible (apply Eq.trans (Mem.ev_tmp _ _ _)); simp only [List.getD_cons_succ, List.getD_cons_zero] <;> rfl)) ?_) | (refine plan_pick_f _ _ _ _ (by rfl) (by rfl) (by rfl) (by first | (with_reducible exact Mem.ev_const _ _) | (with_reducible exact Mem.ev_zero _ _ _) | (with_reducible (apply Eq.trans (Mem.ev_tmp _ _ _)); simp only [List.getD_cons_succ, List.getD_cons_zero] <;> rfl)) (by first | (with_reducible exact Mem.ev_const _ _) | (with_reducible exact Mem.ev_zero _ _ _) | (with_reducible (apply Eq.trans (Mem.ev_tmp _ _ _)); simp only [List.getD_cons_succ, List.getD_cons_zero] <;> rfl)) ?_))
      (simp only [Act.put, List.setIfInBounds_toArray, List.set_cons_zero, List.set_cons_succ])
      (first | (refine plan_move _ _ (by rfl) (by rfl) (.inl (by rfl)) (by first | (with_reducible exact Mem.ev_const _ _) | (with_reducible exact Mem.ev_zero _ _ _) | (with_reducible (apply Eq.trans (Mem.ev_tmp _ _ _)); simp only [List.getD_cons_succ, List.getD_cons_zero] <;> rfl)) ?_) | (refine plan_move _ _ (by rfl) (by rfl) (.inr (by rfl)) (by first | (with_reducible exact Mem.ev_const _ _) | (with_reducible exact Mem.ev_zero _ _ _) | (with_reducible (apply Eq.trans (Mem.ev_tmp _ _ _)); simp only [List.getD_cons_succ, List.getD_cons_zero] <;> rfl)) ?_) | (refine plan_pick_t _ _ _ _ (by rfl) (by rfl) (by rfl) (by first | (with_reducible exact Mem.ev_const _ _) | (with_reducible exact Mem.ev_zero _ _ _) | (with_reducible (apply Eq.trans (Mem.ev_tmp _ _ _)); simp only [List.getD_cons_succ, List.getD_cons_zero] <;> rfl)) (by first | (with_reducible exact Mem.ev_const _ _) | (with_reducible exact Mem.ev_zero _ _ _) | (with_reducible (apply Eq.trans (Mem.ev_tmp _ _ _)); simp only [List.getD_cons_succ, List.getD_cons_zero] <;> rfl)) ?_) | (refine plan_pick_f _ _ _ _ (by rfl) (by rfl) (by rfl) (by first | (with_reducible exact Mem.ev_const _ _) | (with_reducible exact Mem.ev_zero _ _ _) | (with_reducible (apply Eq.trans (Mem.ev_tmp _ _ _)); simp only [List.getD_cons_succ, List.getD_cons_zero] <;> rfl)) (by first | (with_reducible exact Mem.ev_const _ _) | (with_reducible exact Mem.ev_zero _ _ _) | (with_reducible (apply Eq.trans (Mem.ev_tmp _ _ _)); simp only [List.getD_cons_succ, List.getD_cons_zero] <;> rfl)) ?_))
      (simp only [Act.put, List.setIfInBounds_toArray, List.set_cons_zero, List.set_cons_succ])
      refine plan_call 26 _ _ _ (by kernel_rfl) (by rfl) (by rfl) (by rfl) (by first | exact Mem.ev_none _ | (simp only [List.map_toArray, List.map_cons, List.map_nil, Mem.ev_tmp, List.getD_cons_succ, List.getD_cons_zero] <;> rfl)) ?_
      refine (dsame_any D6.out).mono ?_
      rintro o w' ⟨rfl, rfl⟩
      refine ⟨_, rfl, B6.out, ?_⟩
      (simp only [Act.put, List.setIfInBounds_toArray, List.set_cons_zero, List.set_cons_succ])
      refine plan_not_t _ _ (by rfl) (by rfl) (by rfl) (by first | (with_reducible exact Mem.ev_const _ _) | (with_reducible exact Mem.ev_zero _ _ _) | (with_reducible (apply Eq.trans (Mem.ev_tmp _ _ _)); simp only [List.getD_cons_succ, List.getD_cons_zero] <;> rfl)) ?_
      (simp only [Act.put, List.setIfInBounds_toArray, List.set_cons_zero, List.set_cons_succ])
      refine plan_pick_f _ _ _ _ (by rfl) (by rfl) (by rfl) (by first | (with_reducible exact Mem.ev_const _ _) | (with_reducible exact Mem.ev_zero _ _ _) | (with_reducible (apply Eq.trans (Mem.ev_tmp _ _ _)); simp only [List.getD_cons_succ, List.getD_cons_zero] <;> rfl)) (by first | (with_reducible exact Mem.ev_const _ _) | (with_reducible exact Mem.ev_zero _ _ _) | (with_reducible (apply Eq.trans (Mem.ev_tmp _ _ _)); simp only [List.getD_cons_succ, List.getD_cons_zero] <;> rfl)) ?_
      (simp only [Act.put, List.setIfInBounds_toArray, List.set_cons_zero, List.set_cons_succ])
      refine plan_nil ?_
      clear cx1 cx2 cx4
      go_wp2_with fail
      go_roundw
      case rel => exact ⟨j + 1, by omega, by go_num, B5.out.trans (B6.out.mono B5.out.size)⟩
      case measure => simp [intOf]; omega
    · have hge : ¬ (j : Int) < 2 := by omega
      have hj2 : j = 2 := by omega
      subst hj2
      have BW : Hid (Below w.heap.size w wr) := B3.out.trans (hI.mono B3.out.size)
      clear hI hlt XX PP B3 LX
      obtain ⟨w0, hw0⟩ : ∃ w0, w0 = wr := ⟨_, rfl⟩
      rw [← hw0] at BW ⊢
      clear hw0
      go_wp2_with fail
      refine (NG.out w0).mono ?_
      rintro e w1 ⟨a, F1, rfl, hR1, hF1, hb1⟩
      have R1 := Lib.hid hR1; have FF1 := Lib.hid hF1; have B1 := Lib.hid hb1
      clear hR1 hF1 hb1
      go_wp2_with fail
      refine (NG.out w1).mono ?_
      rintro e w2 ⟨b, F2, rfl, hR2, hF2, hb2⟩
      have R2 := Lib.hid hR2; have FF2 := Lib.hid hF2; have B2 := Lib.hid hb2
      clear hR2 hF2 hb2 NG
      go_wp2_with fail
      obtain ⟨w3', hw3⟩ : ∃ w3', w3' = (w2.alloc (.cells zeroSt 32)).alloc (.cells zeroSt 32) := ⟨_, rfl⟩
      have a1 : At w3' w2.heap.size zeroSt 32 := by rw [hw3]; exact (at_new w2 _ _).alloc _
      have a2 : At w3' (w2.heap.size + 1) zeroSt 32 := by
        have h := at_new (w2.alloc (.cells zeroSt 32)) zeroSt 32
        rw [World.size_alloc] at h; rw [hw3]; exact h
      have HW3 := Lib.hid hw3
      unfold zeroSt at hw3
      rw [← hw3]
      clear hw3
      refine (RG.out w3').mono ?_
      rintro e w4 ⟨v1, rfl, ho1, hb4⟩
      obtain ⟨av1, cv1, rfl⟩ := own_hd ho1 (show 1024 = (List.replicate (4 * 256) (0 : BitVec 8)).length by simp)
      have A1 := Lib.hid (a1.below hb4 a1.lt); have A2 := Lib.hid (a2.below hb4 a2.lt); have O1 := Lib.hid ho1; have B4 := Lib.hid hb4
      clear a1 a2 ho1 hb4
      go_wp2_with (refine wpList_store_all (by rfl) 32 _ _ (by rfl) (by rfl) w2.heap.size (dRow 4 (.slice av1 1024 cv1)) (by rfl) (by rfl) (by exact infoSt6) zeroSt 32 A1.out (by rfl) (by simp [dRow, stRow, Value.oneCell']) ?_)
      obtain ⟨w5, hw5⟩ : ∃ w5, w5 = w4.setRow w2.heap.size (dRow 4 (.slice av1 1024 cv1)) := ⟨_, rfl⟩
      have a1 : At w5 w2.heap.size (dRow 4 (.slice av1 1024 cv1)) 32 := by rw [hw5]; exact A1.out.row _
      have a2 : At w5 (w2.heap.size + 1) zeroSt 32 := by rw [hw5]; exact A2.out.row_other _ (by omega)
      have HW5 := Lib.hid hw5
      rw [← hw5]
      clear hw5 A1 A2
      refine (RG.out w5).mono ?_
      rintro e w6 ⟨v2, rfl, ho2, hb6⟩
      obtain ⟨av2, cv2, rfl⟩ := own_hd ho2 (show 1024 = (List.replicate (4 * 256) (0 : BitVec 8)).length by simp)
      have A1 := Lib.hid (a1.below hb6 a1.lt); have A2 := Lib.hid (a2.below hb6 a2.lt); have O2 := Lib.hid ho2; have B6 := Lib.hid hb6
      clear a1 a2 ho2 hb6 RG
      go_wp2_with (refine wpList_store_all (by rfl) 32 _ _ (by rfl) (by rfl) (w2.heap.size + 1) (dRow 4 (.slice av2 1024 cv2)) (by rfl) (by rfl) (by exact infoSt6) zeroSt 32 A2.out (by rfl) (by simp [dRow, stRow, Value.oneCell']) ?_)
      obtain ⟨w7, hw7⟩ : ∃ w7, w7 = w6.setRow (w2.heap.size + 1) (dRow 4 (.slice av2 1024 cv2)) := ⟨_, rfl⟩
      have I0 : Hid (QInv PSt a w2.heap.size b (w2.heap.size + 1) w0 0 (stNew 4) w7) := quad_start devC R1.out FF1.out B1.out R2.out FF2.out B2.out HW3.out O1.out.slB B4.out HW5.out O2.out.slB B6.out hw7 (by rw [hw7]; exact A1.out.row_other _ (by omega)) (by rw [hw7]; exact A2.out.row _)
      rw [← hw7]
      clear hw7 HW3 HW5 A1 A2 O1 O2 B1 B2 B4 B6 R1 R2 FF1 FF2
      refine (SH.out _ (HL.out.below (BW.out.trans (I0.out.base.mono BW.out.size))) LL.out).mono ?_
      rintro e w' ⟨⟨v, rfl, hst0⟩, rfl⟩
      have hst := hst0 w HL.out
      clear hst0
      have IN := Lib.hid (fun j (hj : j < (l.take 60).length) => (HS.out ((l.take 60).getD j default) (by rw [List.getD_eq_getElem?_getD, List.getElem?_eq_getElem hj]; exact List.mem_of_mem_take (List.getElem_mem hj)) : goodS6 ((l.take 60).getD j default)))
      have h60 : (l.take 60).length ≤ 60 := by simp; omega
      obtain ⟨L, hL⟩ : ∃ L, L = l.take 60 := ⟨_, rfl⟩
      rw [← hL] at hst IN h60
      have ST := Lib.hid hst
      obtain ⟨al, capl, rfl, _, _⟩ := hst
      obtain ⟨ln, hn⟩ : ∃ n, n = L.length := ⟨_, rfl⟩
      rw [← hn] at ST IN h60 ⊢
      have LN := Lib.hid hn
      clear hn hL SH HL HS LL
      go_wp2_with fail
      go_loopw [142] (fun i wr => ∃ j : Nat, j ≤ ln ∧ i = .int .i64 j ∧ ∃ s, QInv PSt a w2.heap.size b (w2.heap.size + 1) w0 j s wr) (fun i _ => ln - (intOf i).toNat)
      case atStart => exact ⟨0, by omega, rfl, _, I0.out⟩
      case round =>
        clear I0
        obtain ⟨j, hj, rfl, s, hI⟩ := hrel
        by_cases hlt : j < ln
        · have hlt' : (j : Int) < (ln : Int) := by omega
          obtain ⟨b1, o1, ha1, cx⟩ := slS6_at (i := j) (ST.out.below (BW.out.trans (hI.base.mono BW.out.size))) (by rw [← LN.out]; exact hlt)
          have hin := IN.out j hlt
          obtain ⟨y, hy9⟩ : ∃ y, y = L.getD j default := ⟨_, rfl⟩
          rw [← hy9] at cx hin
          have c0 : wr.cell? ⟨b1, o1 + j * 5, none⟩ = some (.int .u8 (B8 y.k)) := by rw [show o1 + j * 5 = o1 + (5 * j + 0) by omega]; exact cx 0 (by decide)
          have c1 : wr.cell? ⟨b1, o1 + j * 5 + 1, none⟩ = some (.int .i64 y.n) := by rw [show o1 + j * 5 + 1 = o1 + (5 * j + 1) by omega]; exact cx 1 (by decide)
          have c2 : wr.cell? ⟨b1, o1 + j * 5 + 2, none⟩ = some (.int .i64 y.a) := by rw [show o1 + j * 5 + 2 = o1 + (5 * j + 2) by omega]; exact cx 2 (by decide)
          have c3 : wr.cell? ⟨b1, o1 + j * 5 + 3, none⟩ = some (.int .u8 (B8 y.x)) := by rw [show o1 + j * 5 + 3 = o1 + (5 * j + 3) by omega]; exact cx 3 (by decide)
          have c4 : wr.cell? ⟨b1, o1 + j * 5 + 4, none⟩ = some (.int .u64 (y.q : Int)) := by rw [show o1 + j * 5 + 4 = o1 + (5 * j + 4) by omega]; exact cx 4 (by decide)
          subst ha1
          have b3 : Below wr.heap.size wr (wr.alloc (.cells (stepC6 y) 39)) := (Below.refl _ _).alloc (Nat.le_refl _) _
          have hA3 := at_new wr (stepC6 y) 39
          have i3 := hI.below devC b3
          obtain ⟨F1, G1, F2, G2, q1, q2, q3, q4⟩ := hI
          have nbx : ¬ ((F1 wr.heap.size ∨ G1 wr.heap.size) ∨ F2 wr.heap.size ∨ G2 wr.heap.size) := by
            rintro ((h | h) | h | h)
            · have := devC.lt q1.a.r _ h; omega
            · have := q1.a.q.lt _ h; omega
            · have := devC.lt q1.b.r _ h; omega
            · have := q1.b.q.lt _ h; omega
          have q5 : Quad PSt a w2.heap.size b (w2.heap.size + 1) F1 G1 F2 G2 s (wr.alloc (.cells (stepC6 y) 39)) := ⟨pair_below devC q1.a b3, pair_below devC q1.b b3, q1.d⟩
          have GX := Lib.hid hin; have A3 := Lib.hid hA3; have Q5 := Lib.hid q5; have Q2 := Lib.hid q2; have Q3 := Lib.hid q3; have Q4 := Lib.hid (i3.base); have NBX := Lib.hid nbx
          clear b3 hA3 i3 q1 q2 q3 q4 nbx q5 hin cx hy9
          go_wp2_with (refine wpList_store_new (by rfl) 39 _ _ (by rfl) (by rfl) (stepC6 y) _ _ (by rfl) (by rfl) (by exact infoStep6) (by rfl) (stepC6_one y) ?_; clear c0 c1 c2 c3 c4; generalize wr.alloc (.cells (stepC6 y) 39) = w3 at *; generalize wr.heap.size = bx at *; have d0 : w3.cell? ⟨bx, 0, none⟩ = some (.int .u8 (B8 y.k)) := A3.out.cell' 0 rfl; have d1 : w3.cell? ⟨bx, 1, none⟩ = some (.int .i64 y.n) := A3.out.cell' 1 rfl; have d2 : w3.cell? ⟨bx, 2, none⟩ = some (.int .i64 y.a) := A3.out.cell' 2 rfl; have d3 : w3.cell? ⟨bx, 3, none⟩ = some (.int .u8 (B8 y.x)) := A3.out.cell' 3 rfl; have d4 : w3.cell? ⟨bx, 4, none⟩ = some (.int .u64 (y.q : Int)) := A3.out.cell' 4 rfl)
          refine (do_all devC y w3 Q5.out.a Q3.out (by omega) GX.out).mono ?_
          rintro e w4 ⟨rfl, hok4, _, hd4⟩
          have hm4 := quad_mid devC Q5.out hd4
          have hA4 := At.chg A3.out hd4.c (fun h => NBX.out (.inl h))
          have OK4 := Lib.hid hok4; have DE4 := Lib.hid hd4; have M4 := Lib.hid hm4; have A4 := Lib.hid hA4
          clear hok4 hd4 hm4 hA4 d0 d1 d2 d3 d4
          have d0 : w4.cell? ⟨bx, 0, none⟩ = some (.int .u8 (B8 y.k)) := A4.out.cell' 0 rfl
          have d1 : w4.cell? ⟨bx, 1, none⟩ = some (.int .i64 y.n) := A4.out.cell' 1 rfl
          have d2 : w4.cell? ⟨bx, 2, none⟩ = some (.int .i64 y.a) := A4.out.cell' 2 rfl
          have d3 : w4.cell? ⟨bx, 3, none⟩ = some (.int .u8 (B8 y.x)) := A4.out.cell' 3 rfl
          have d4 : w4.cell? ⟨bx, 4, none⟩ = some (.int .u64 (y.q : Int)) := A4.out.cell' 4 rfl
          go_wp2_with fail
          refine (do_all devC y w4 M4.out Q3.out (by omega) GX.out).mono ?_
          rintro e w5 ⟨rfl, _, _, hd5⟩
          have q5 := quad_step devC Q5.out Q2.out Q4.out DE4.out hd5 OK4.out
          obtain ⟨s2, hs2⟩ : ∃ s2, s2 = doSt s y := ⟨_, rfl⟩
          rw [← hs2] at q5
          have I5 := Lib.hid q5
          clear hd5 q5 hs2 d0 d1 d2 d3 d4 A3 A4 Q5 Q2 Q3 Q4 DE4 M4 OK4 NBX GX
          go_wp2_with fail
          have OK5 := Lib.hid (I5.out.ok.mono (show j + 1 ≤ 1000 by omega))
          obtain ⟨F5, f5⟩ := I5.out.ra
          refine (devC.bytes w5 f5 OK5.out).mono ?_
          rintro e w6 ⟨v6, rfl, ho6, hb6⟩
          obtain ⟨n6, hn6⟩ : ∃ n6, n6 = s2.b.length := ⟨_, rfl⟩
          have l6 : n6 ≤ 1000000 := by rw [hn6, OK5.out.b]; have := OK5.out.n2; omega
          obtain ⟨a6, c6, rfl⟩ := own_hd ho6 hn6
          have hi6 : Inc 5 .u8 w5.heap.size w6 a6 n6 := by
            unfold OwnB at ho6
            rw [← hn6] at ho6
            exact inc_own ho6 fun u hu => by obtain ⟨z, _, rfl⟩ := List.mem_map.1 hu; exact ⟨_, rfl⟩
          have f6 := devC.below f5 hb6
          have B6 := Lib.hid hb6; have IC6 := Lib.hid hi6; have F6 := Lib.hid f6
          clear f5 ho6 hb6 hi6 f6 hn6
          go_wp2_with fail
          refine (devC.trace w6 F6.out OK5.out).mono ?_
          rintro e w7 ⟨v7, rfl, ho7, hb7⟩
          obtain ⟨n7, hn7⟩ : ∃ n7, n7 = s2.t.length := ⟨_, rfl⟩
          have l7 : n7 ≤ 1000 := by rw [hn7]; exact OK5.out.t
          rw [← hn7] at ho7
          obtain ⟨a7, c7, rfl⟩ := rows_hd ho7
          have hi7 : Inc 3 .i64 w5.heap.size w7 a7 n7 := by
            have h := inc_own (k := .i64) ho7 fun u hu => by obtain ⟨z, _, rfl⟩ := List.mem_map.1 hu; exact ⟨_, rfl⟩
            exact fun hne => by obtain ⟨g, cur, e, hg, hh⟩ := h hne; exact ⟨g, cur, e, Nat.le_trans B6.out.size hg, hh⟩
          have B7 : Hid (Below w5.heap.size w5 w7) := B6.out.trans (hb7.mono B6.out.size)
          have IC7 : Hid (Inc 5 .u8 w5.heap.size w7 a6 n6) := IC6.out.keep hb7
          have ID7 := Lib.hid hi7
          clear ho7 hb7 hi7 hn7 B6 IC6 F6
          go_wp2_with fail
          go_loopw [162] (fun i wr => ∃ k : Nat, k ≤ n6 ∧ i = .int .i64 k ∧ Below w5.heap.size w5 wr ∧ Inc 5 .u8 w5.heap.size wr a6 n6 ∧ Inc 3 .i64 w5.heap.size wr a7 n7) (fun i _ => n6 - (intOf i).toNat)
          case atStart => exact ⟨0, by omega, rfl, B7.out, IC7.out, ID7.out⟩
          case round =>
            obtain ⟨k, hk, rfl, hB, hI6, hI7⟩ := hrel
            by_cases hlk : k < n6
            · have hlk' : (k : Int) < (n6 : Int) := by omega
              obtain ⟨g, cur, z, e, hg, hA, hs, cz, hn⟩ := hI6.at hlk
              obtain ⟨y9, hy⟩ := inc_u8 z
              have HB := Lib.hid hB; have HA := Lib.hid hA; have HS := Lib.hid hs; have HN := Lib.hid hn; have HO := Lib.hid hI7; have HG := Lib.hid hg; have HY := Lib.hid hy
              subst e
              clear hB hI6 hI7 hA hs hn hg hy
              go_wp2_with (first
                | (refine wpList_bin (by rfl) .add _ _ _ _ _ _ _ (by rfl) (by rfl) (by rfl) (fun wx => HY.out _ _ _ _ wx) ?_)
                | (refine Mem.wpList_store_one (by rfl) 5 _ _ (by rfl) (by rfl) g k (.int .u8 y9) (by rfl) (by rfl) (by rfl) infoB cur 5 HA.out HS.out ?_; intro w9 ha ho hk9; have N9 := Lib.hid (HN.out w9 y9 ha); have O9 := Lib.hid (HO.out.other HA.out (by decide) ho); have B9 := Lib.hid (hk9 _ _ HB.out HG.out); clear ha ho hk9))
              go_roundw
              case rel => exact ⟨k + 1, by omega, by go_num, B9.out, N9.out, O9.out⟩
              case measure => simp [intOf]; omega
            · have hge : ¬ (k : Int) < (n6 : Int) := by omega
              have HB := Lib.hid hB; have H6 := Lib.hid hI6; have H7 := Lib.hid hI7
              clear hB hI6 hI7 hlk
              go_wp2_with fail
              go_loopw [174] (fun i wr => ∃ k : Nat, k ≤ n7 ∧ i = .int .i64 k ∧ Below w5.heap.size w5 wr ∧ Inc 5 .u8 w5.heap.size wr a6 n6 ∧ Inc 3 .i64 w5.heap.size wr a7 n7) (fun i _ => n7 - (intOf i).toNat)
              case atStart => exact ⟨0, by omega, rfl, HB.out, H6.out, H7.out⟩
              case round =>
                obtain ⟨k, hk, rfl, hB, hI6, hI7⟩ := hrel
                by_cases hlk : k < n7
                · have hlk' : (k : Int) < (n7 : Int) := by omega
                  obtain ⟨g, cur, z, e, hg, hA, hs, cz, hn⟩ := hI7.at hlk
                  obtain ⟨y9, hy⟩ := inc_i64 z
                  have HB := Lib.hid hB; have HA := Lib.hid hA; have HS := Lib.hid hs; have HN := Lib.hid hn; have HO := Lib.hid hI6; have HG := Lib.hid hg; have HY := Lib.hid hy
                  subst e
                  clear hB hI6 hI7 hA hs hn hg hy
                  go_wp2_with (first
                    | (refine wpList_bin (by rfl) .add _ _ _ _ _ _ _ (by rfl) (by rfl) (by rfl) (fun wx => HY.out _ _ _ _ wx) ?_)
                    | (refine Mem.wpList_store_one (by rfl) 3 _ _ (by rfl) (by rfl) g k (.int .i64 y9) (by rfl) (by rfl) (by rfl) infoInt1 cur 3 HA.out HS.out ?_; intro w9 ha ho hk9; have N9 := Lib.hid (HN.out w9 y9 ha); have O9 := Lib.hid (HO.out.other HA.out (by decide) ho); have B9 := Lib.hid (hk9 _ _ HB.out HG.out); clear ha ho hk9))
                  go_roundw
                  case rel => exact ⟨k + 1, by omega, by go_num, B9.out, O9.out, N9.out⟩
                  case measure => simp [intOf]; omega
                · have hge : ¬ (k : Int) < (n7 : Int) := by omega
                  have HB := Lib.hid hB; have H6 := Lib.hid hI6; have H7 := Lib.hid hI7
                  clear hB hI6 hI7 hlk
                  go_wp2_with fail
                  go_roundw
                  case rel => exact ⟨j + 1, by omega, by go_num, s2, I5.out.below devC HB.out⟩
                  case measure => simp [intOf]; omega
        · have hge : ¬ (j : Int) < (ln : Int) := by omega
          have hjn : j = ln := by omega
          subst hjn
          have OK := Lib.hid (hI.ok.mono (show j ≤ 1000 by omega)); have OKJ := Lib.hid hI.ok
          obtain ⟨F, G, f, g, hd, hF⟩ := hI.two
          have BB : Hid (Below w.heap.size w wr) := BW.out.trans (hI.base.mono BW.out.size)
          have RF := Lib.hid f; have RG2 := Lib.hid g; have HD := Lib.hid hd; have HF := Lib.hid hF; have BI := Lib.hid hI.base
          clear hI f g hd hF IN ST hlt BL1
          go_wp2_with fail
          refine (psame_true wr RF.out RG2.out OK.out).mono ?_
          rintro e w5 ⟨rfl, hb5⟩
          have R5 := Lib.hid (devC.below RF.out hb5); have G5 := Lib.hid (devC.below RG2.out hb5); have B5 := Lib.hid hb5
          clear hb5
          go_wp2_with fail
          refine (psame_true w5 G5.out R5.out OK.out).mono ?_
          rintro e w6 ⟨rfl, hb6⟩
          have R6 := Lib.hid (devC.below R5.out hb6); have G6 := Lib.hid (devC.below G5.out hb6)
          have B6 : Hid (Below wr.heap.size wr w6) := B5.out.trans (hb6.mono B5.out.size)
          clear hb6 R5 G5 B5
          go_wp2_with fail
          refine (devC.flush w6 R6.out OK.out).mono ?_
          rintro e w7 ⟨rfl, hs7⟩
          obtain ⟨⟨F7, f7, _⟩, hc7⟩ := hs7
          have g7 := devC.chg G6.out hc7 (fun k hk hf => HD.out k hf hk)
          have b7 : Below w0.heap.size w0 w7 := hc7.below (BI.out.trans (B6.out.mono BI.out.size)) HF.out (Nat.le_trans BI.out.size B6.out.size)
          have okf : Ok6 1000 (stFlush s) := (ok_flush OKJ.out).mono (show j + 1 ≤ 1000 by omega)
          have F7H := Lib.hid f7; have G7 := Lib.hid g7; have B7 : Hid (Below w.heap.size w w7) := BW.out.trans (b7.mono BW.out.size)
          have OKF := Lib.hid okf
          clear f7 hc7 g7 b7 okf R6 G6 B6
          go_wp2_with fail
          refine (psame_false w7 F7H.out G7.out OKF.out OK.out).mono ?_
          rintro e w8 ⟨rfl, hb8⟩
          have F8 := Lib.hid (devC.below F7H.out hb8); have B8 : Hid (Below w.heap.size w w8) := B7.out.trans (hb8.mono B7.out.size)
          clear hb8
          go_wp2_with fail
          refine (psame_nil w8 F8.out OKF.out).mono ?_
          rintro o w' ⟨rfl, rfl⟩
          go_wp2_with fail
          refine (ALV.out w8).mono ?_
          rintro e w9 ⟨rfl, hb9⟩
          have B9 : Hid (Below w.heap.size w w9) := B8.out.trans (hb9.mono B8.out.size)
          clear hb9
          go_wp2_with fail
          go_ret
          exact ⟨rfl, B9.out⟩
end Sha
end Go.Proofs.Ytkgpcgkikenljaa
