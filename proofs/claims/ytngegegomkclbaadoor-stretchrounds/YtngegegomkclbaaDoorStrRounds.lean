/- The walk of the law StretchRounds: a key of one round is the first mac of each block; each round more joins one more. -/
import Derived.Test.YtngegegomkclbaaDoorStrBlocks
namespace Go.Proofs.YtngegegomkclbaaDoor
namespace Sha
open Go.RowKit Mem
theorem neq_32 (l : List (BitVec 8)) (hl : l.length = 32) (x y : Operand) (w : World) : (do eqGuard .neq 25 x y (.agg (u8s l).toArray) (.agg (u8s l).toArray); binOp .neq 25 (.agg (u8s l).toArray) (.agg (u8s l).toArray) : Sem Value).run Tryd.prog w = .ok (.bool false) w := by
  have h := eql_32 l hl x y w
  rw [Sem.run_bind, run_eqGuard_agg w .eql 25 x y _ _ (by kernel_rfl), Result.andThen_ok, run_eql_struct] at h
  rw [Sem.run_bind, run_eqGuard_agg w .neq 25 x y _ _ (by kernel_rfl), Result.andThen_ok, run_neq_struct]
  cases he : (Op.equalIn 10000 25 (.agg (u8s l).toArray) (.agg (u8s l).toArray)).run Tryd.prog w with
  | ok b w' =>
    rw [he] at h
    simp only [Result.andThen_ok] at h ⊢
    injection h with h1 h2
    injection h1 with h1
    rw [h1, h2]; rfl
  | halt x w' =>
    rw [he] at h
    simp [Result.andThen] at h
theorem rnds_nat (k : Nat) (h1 : 1 ≤ k) (h2 : k ≤ 10000) : rnds' (k : Int) = k := by
  unfold rnds'
  rw [show roundsB (k : Int) = true by simp [roundsB]; omega]; simp
theorem blk_one (p s : List (BitVec 8)) (n : BitVec 32) : blk p s n 1 = mcs p s n 0 := joinB_zero _ 32 (mcs_length p s n 0)
structure SRInv (A0 D : Array Value) (b bm : Nat) (w wr : World) : Prop where
  a : At wr b A0 35
  m : At wr bm D 25
  b : Below w.heap.size w wr
set_option maxRecDepth 100000 in
set_option maxHeartbeats 1000000 in
theorem rounds_far (p s : List (BitVec 8)) (r size : Int) (vp vs : Value) (w : World) (hp : Sl w vp p) (hs : Sl w vs s) (hf : farB p.length s.length r 0 = true) (hL : Tabs w) :
    Calls Tryd.prog 8 #[.agg (askRow vp vs r size)] w fun e w' => e = .returned (.bool true) ∧ Below w.heap.size w w' := by
  have HAL := Lib.hid (fun wx (h : Below w.heap.size w wx) => alive3_any wx (hL.below h (Nat.le_refl _)))
  obtain ⟨A0, hA⟩ : ∃ A, A = askRow vp vs r size := ⟨_, rfl⟩
  obtain ⟨a1, c1, rfl, _, _⟩ := hp
  obtain ⟨a2, c2, rfl, _, _⟩ := hs
  have hfar := fun wx => far3_any a1 a2 p.length s.length c1 c2 r 0 wx
  rw [hf] at hfar
  generalize p.length = np at *
  generalize s.length = ns at *
  have a0 : At (w.alloc (.cells A0 35)) w.heap.size A0 35 := at_new w A0 _
  have b0 : Below w.heap.size w (w.alloc (.cells A0 35)) := (Below.refl _ _).alloc (Nat.le_refl _) _
  rw [← hA]
  have FAR := Lib.hid hfar; have HA := Lib.hid hA; have A1 := Lib.hid a0; have B1 := Lib.hid b0
  clear hfar hA a0 b0 hL hf
  go_enter Tryd.func8, Tryd.ntmps8
  generalize hw1 : w.alloc (.cells A0 35) = w1 at *
  obtain ⟨c0, c1', c2', c3'⟩ := ask_cells (HA.out ▸ A1.out)
  go_wp2_with fail
  refine (FAR.out _).mono ?_
  rintro e w' ⟨rfl, rfl⟩
  go_wp2_with fail
  refine (HAL.out _ B1.out).mono ?_
  rintro e w9 ⟨rfl, hb9⟩
  have B9 := Lib.hid (B1.out.trans (hb9.mono B1.out.size))
  clear hb9
  go_wp2_with fail
  go_ret
  exact ⟨rfl, B9.out⟩
set_option maxRecDepth 100000 in
set_option maxHeartbeats 1000000 in
theorem rounds_few (p s : List (BitVec 8)) (r size : Int) (vp vs : Value) (w : World) (hp : Sl w vp p) (hs : Sl w vs s) (hf : farB p.length s.length r 0 = false) (hr : r < 2) (hL : Tabs w) :
    Calls Tryd.prog 8 #[.agg (askRow vp vs r size)] w fun e w' => e = .returned (.bool true) ∧ Below w.heap.size w w' := by
  have HAL := Lib.hid (fun wx (h : Below w.heap.size w wx) => alive3_any wx (hL.below h (Nat.le_refl _)))
  obtain ⟨A0, hA⟩ : ∃ A, A = askRow vp vs r size := ⟨_, rfl⟩
  obtain ⟨a1, c1, rfl, _, _⟩ := hp
  obtain ⟨a2, c2, rfl, _, _⟩ := hs
  have hfar := fun wx => far3_any a1 a2 p.length s.length c1 c2 r 0 wx
  rw [hf] at hfar
  generalize p.length = np at *
  generalize s.length = ns at *
  have a0 : At (w.alloc (.cells A0 35)) w.heap.size A0 35 := at_new w A0 _
  have b0 : Below w.heap.size w (w.alloc (.cells A0 35)) := (Below.refl _ _).alloc (Nat.le_refl _) _
  rw [← hA]
  have FAR := Lib.hid hfar; have HA := Lib.hid hA; have A1 := Lib.hid a0; have B1 := Lib.hid b0
  clear hfar hA a0 b0 hL hf
  go_enter Tryd.func8, Tryd.ntmps8
  generalize hw1 : w.alloc (.cells A0 35) = w1 at *
  obtain ⟨c0, c1', c2', c3'⟩ := ask_cells (HA.out ▸ A1.out)
  go_wp2_with fail
  refine (FAR.out _).mono ?_
  rintro e w' ⟨rfl, rfl⟩
  go_wp2_with fail
  refine (HAL.out _ B1.out).mono ?_
  rintro e w9 ⟨rfl, hb9⟩
  have B9 := Lib.hid (B1.out.trans (hb9.mono B1.out.size))
  clear hb9
  go_wp2_with fail
  go_ret
  exact ⟨rfl, B9.out⟩
set_option maxRecDepth 100000 in
set_option maxHeartbeats 1000000 in
theorem rounds_many (p s : List (BitVec 8)) (r size : Int) (vp vs : Value) (w : World) (hp : Sl w vp p) (hs : Sl w vs s) (hf : farB p.length s.length r 0 = false) (_hr1 : ¬ r < 2) (hr : 10000 < r) (hL : Tabs w) :
    Calls Tryd.prog 8 #[.agg (askRow vp vs r size)] w fun e w' => e = .returned (.bool true) ∧ Below w.heap.size w w' := by
  have HAL := Lib.hid (fun wx (h : Below w.heap.size w wx) => alive3_any wx (hL.below h (Nat.le_refl _)))
  obtain ⟨A0, hA⟩ : ∃ A, A = askRow vp vs r size := ⟨_, rfl⟩
  obtain ⟨a1, c1, rfl, _, _⟩ := hp
  obtain ⟨a2, c2, rfl, _, _⟩ := hs
  have hfar := fun wx => far3_any a1 a2 p.length s.length c1 c2 r 0 wx
  rw [hf] at hfar
  generalize p.length = np at *
  generalize s.length = ns at *
  have a0 : At (w.alloc (.cells A0 35)) w.heap.size A0 35 := at_new w A0 _
  have b0 : Below w.heap.size w (w.alloc (.cells A0 35)) := (Below.refl _ _).alloc (Nat.le_refl _) _
  rw [← hA]
  have FAR := Lib.hid hfar; have HA := Lib.hid hA; have A1 := Lib.hid a0; have B1 := Lib.hid b0
  clear hfar hA a0 b0 hL hf
  go_enter Tryd.func8, Tryd.ntmps8
  generalize hw1 : w.alloc (.cells A0 35) = w1 at *
  obtain ⟨c0, c1', c2', c3'⟩ := ask_cells (HA.out ▸ A1.out)
  go_wp2_with fail
  refine (FAR.out _).mono ?_
  rintro e w' ⟨rfl, rfl⟩
  go_wp2_with fail
  refine (HAL.out _ B1.out).mono ?_
  rintro e w9 ⟨rfl, hb9⟩
  have B9 := Lib.hid (B1.out.trans (hb9.mono B1.out.size))
  clear hb9
  go_wp2_with fail
  go_ret
  exact ⟨rfl, B9.out⟩
set_option maxRecDepth 100000 in
set_option maxHeartbeats 1000000 in
theorem rounds_near (p s : List (BitVec 8)) (r : Nat) (size : Int) (vp vs : Value) (w : World) (hp : Sl w vp p) (hs : Sl w vs s) (hf : farB p.length s.length (r : Int) 0 = false) (r1 : 2 ≤ r) (r2 : r ≤ 10000) (lp : p.length ≤ 200) (ls : s.length ≤ 200) (hL : Tabs w) :
    Calls Tryd.prog 8 #[.agg (askRow vp vs (r : Int) size)] w fun e w' => e = .returned (.bool true) ∧ Below w.heap.size w w' := by
  have HAL := Lib.hid (fun wx (h : Below w.heap.size w wx) => alive3_any wx (hL.below h (Nat.le_refl _)))
  have hbl : ∀ (k : Nat) (wx : World), 1 ≤ k → k ≤ 10000 → Below w.heap.size w wx → Calls Tryd.prog 24 #[vp, vs, .int .i64 (k : Int), .int .u32 1] wx fun e w' => e = .returned (.agg (u8s (blk p s 1 k)).toArray) ∧ Below wx.heap.size wx w' := fun k wx h1 h2 hx => by
    have h := pblock_any p s 1 (k : Int) vp vs wx (by omega) (by omega) (hp.below hx) (hs.below hx) (hL.below hx (Nat.le_refl _))
    rw [rnds_nat k h1 h2] at h
    exact h
  have hb1 : ∀ (wx : World), Below w.heap.size w wx → Calls Tryd.prog 24 #[vp, vs, .int .i64 1, .int .u32 1] wx fun e w' => e = .returned (.agg (u8s (mcs p s 1 0)).toArray) ∧ Below wx.heap.size wx w' := fun wx hx => by
    have h := hbl 1 wx (by decide) (by decide) hx
    rw [blk_one] at h
    exact h
  have hm0 : ∀ (wx : World) (v : Value), Below w.heap.size w wx → Sl wx v (s ++ be4 1) → Calls Tryd.prog 17 #[vp, v] wx fun e w' => e = .returned (.agg (u8s (mcs p s 1 0)).toArray) ∧ Below wx.heap.size wx w' := fun wx v hx hv =>
    rmac_any p (s ++ be4 1) vp v wx (hp.below hx) hv (by omega) (by simp [be4]; omega)
  have hmj : ∀ (j : Nat) (wx : World) (v : Value), Below w.heap.size w wx → Sl wx v (mcs p s 1 j) → Calls Tryd.prog 17 #[vp, v] wx fun e w' => e = .returned (.agg (u8s (mcs p s 1 (j + 1))).toArray) ∧ Below wx.heap.size wx w' := fun j wx v hx hv =>
    rmac_any p (mcs p s 1 j) vp v wx (hp.below hx) hv (by omega) (by rw [mcs_length]; decide)
  have hjo := fun (wx : World) => join_any (blk p s 1 (r - 1)) (mcs p s 1 (r - 1)) (blk_length p s 1 (r - 1)) (mcs_length p s 1 (r - 1)) wx
  have hjr : jnOf (blk p s 1 (r - 1)) (mcs p s 1 (r - 1)) = (u8s (blk p s 1 r)).toArray := by
    obtain ⟨q, rfl⟩ : ∃ q, r = q + 1 := ⟨r - 1, by omega⟩
    rfl
  rw [hjr] at hjo
  have he1 := neq_32 (mcs p s 1 0) (mcs_length p s 1 0)
  have he2 := eql_32 (blk p s 1 r) (blk_length p s 1 r)
  have hba := hbl (r - 1)
  have hbb := hbl r
  have hsl := hs
  have g1 : ¬ (r : Int) < 2 := by omega
  have g2 : ¬ (10000 : Int) < (r : Int) := by omega
  obtain ⟨A0, hA⟩ : ∃ A, A = askRow vp vs (r : Int) size := ⟨_, rfl⟩
  obtain ⟨a1, c1, rfl, _, _⟩ := hp
  obtain ⟨a2, c2, rfl, _, _⟩ := hs
  have hfar := fun wx => far3_any a1 a2 p.length s.length c1 c2 (r : Int) 0 wx
  rw [hf] at hfar
  generalize p.length = np at *
  obtain ⟨ns, hns⟩ : ∃ n, n = s.length := ⟨_, rfl⟩
  rw [← hns] at hba hbb hb1 hsl hfar hA ls ⊢
  have HNS := Lib.hid hns
  clear hns
  have a0 : At (w.alloc (.cells A0 35)) w.heap.size A0 35 := at_new w A0 _
  have b0 : Below w.heap.size w (w.alloc (.cells A0 35)) := (Below.refl _ _).alloc (Nat.le_refl _) _
  rw [← hA]
  have FAR := Lib.hid hfar; have HA := Lib.hid hA; have A1 := Lib.hid a0; have B1 := Lib.hid b0; have BA := Lib.hid hba; have BB := Lib.hid hbb; have BO := Lib.hid hb1; have MO := Lib.hid hm0; have MJ := Lib.hid hmj; have JO := Lib.hid hjo; have EN := Lib.hid he1; have EQ := Lib.hid he2; have SL := Lib.hid hsl; have LS := Lib.hid ls
  clear hfar hA a0 b0 hL hf hbl hba hbb hb1 hm0 hmj hjo he1 he2 hsl hjr lp ls
  go_enter Tryd.func8, Tryd.ntmps8
  generalize hw1 : w.alloc (.cells A0 35) = w1 at *
  obtain ⟨c0, c1', c2', c3'⟩ := ask_cells (HA.out ▸ A1.out)
  go_wp2_with fail
  refine (FAR.out _).mono ?_
  rintro e w' ⟨rfl, rfl⟩
  go_wp2_with fail
  have AL := Lib.hid A1.out.lt
  have C0 := Lib.hid c0; have C1 := Lib.hid c1'; have C2 := Lib.hid c2'
  clear c0 c1' c2' c3'
  have ALL := Lib.hid run_allocDg
  obtain ⟨Z, hZ⟩ : ∃ Z, Z = Z32 := ⟨_, rfl⟩
  rw [← hZ] at ALL
  have zs : Z.size = 32 := by rw [hZ]; simp [Z32, u8s]
  have ZS := Lib.hid zs
  clear hZ zs
  obtain ⟨G, hG⟩ : ∃ G, G = (u8s (mcs p s 1 0)).toArray := ⟨_, rfl⟩
  have gs : G.size = 32 := by rw [hG]; simp [u8s, mcs_length]
  have go : G.all (·.oneCell') = true := by rw [hG]; exact u8s_one _
  have GS := Lib.hid gs; have GO := Lib.hid go; have HG := Lib.hid hG
  clear hG gs go
  have mo := MO.out
  rw [← HG.out] at mo
  have MO' := Lib.hid mo
  clear mo
  go_cut [3] (fun x wx => OneAt w1 G 25 x wx)
  case first =>
    refine wp_region_plan (.take 0 (.take 1 (.take 2 (.take 3 (.three 4 5 8 (.two 5 8 (.two 6 8 (.two 7 8 (.sole 8 (.sole 9 .done)) (.sole 7 (.sole 9 .done))) (.sole 6 (.sole 7 (.sole 9 .done)))) (.sole 5 (.sole 6 (.sole 7 (.sole 9 .done))))) (.two 4 8 (.two 6 8 (.two 7 8 (.sole 8 (.sole 9 .done)) (.sole 7 (.sole 9 .done))) (.sole 6 (.sole 7 (.sole 9 .done)))) (.sole 4 (.sole 6 (.sole 7 (.sole 9 .done))))) (.two 4 5 (.sole 5 (.sole 6 (.sole 7 (.sole 9 .done)))) (.sole 4 (.sole 6 (.sole 7 (.sole 9 .done)))))))))) (by kernel_rfl) (by kernel_rfl) (by kernel_rfl) ?_
    refine plan_field 35 _ 0 w.heap.size 0 ⟨w.heap.size, 0, none⟩ (by rfl) (by rfl) (by rfl) (by first | (with_reducible exact Mem.ev_const _ _) | (with_reducible exact Mem.ev_zero _ _ _) | (with_reducible (apply Eq.trans (Mem.ev_tmp _ _ _)); simp only [List.getD_cons_succ, List.getD_cons_zero] <;> rfl)) (fun wx => by go_simp) ?_
    (simp only [Act.put, List.setIfInBounds_toArray, List.set_cons_zero, List.set_cons_succ])
    refine plan_cell 22 _ _ _ _ (by rfl) (by rfl) (by rfl) (by first | (with_reducible exact Mem.ev_const _ _) | (with_reducible exact Mem.ev_zero _ _ _) | (with_reducible (apply Eq.trans (Mem.ev_tmp _ _ _)); simp only [List.getD_cons_succ, List.getD_cons_zero] <;> rfl)) (fun w' hw' => (hw'.cell (p := ⟨w.heap.size, 0, none⟩) AL.out).trans C0.out) Tryd.underlying22 (by rfl) ?_
    (simp only [Act.put, List.setIfInBounds_toArray, List.set_cons_zero, List.set_cons_succ])
    refine plan_field 35 _ 1 w.heap.size 0 ⟨w.heap.size, 1, none⟩ (by rfl) (by rfl) (by rfl) (by first | (with_reducible exact Mem.ev_const _ _) | (with_reducible exact Mem.ev_zero _ _ _) | (with_reducible (apply Eq.trans (Mem.ev_tmp _ _ _)); simp only [List.getD_cons_succ, List.getD_cons_zero] <;> rfl)) (fun wx => by go_simp) ?_
    (simp only [Act.put, List.setIfInBounds_toArray, List.set_cons_zero, List.set_cons_succ])
    refine plan_cell 22 _ _ _ _ (by rfl) (by rfl) (by rfl) (by first | (with_reducible exact Mem.ev_const _ _) | (with_reducible exact Mem.ev_zero _ _ _) | (with_reducible (apply Eq.trans (Mem.ev_tmp _ _ _)); simp only [List.getD_cons_succ, List.getD_cons_zero] <;> rfl)) (fun w' hw' => (hw'.cell (p := ⟨w.heap.size, 1, none⟩) AL.out).trans C1.out) Tryd.underlying22 (by rfl) ?_
    (simp only [Act.put, List.setIfInBounds_toArray, List.set_cons_zero, List.set_cons_succ])
    have B : Hid (Below w1.heap.size w1 w1.drew) := (Below.refl _ _).drew
    generalize w1.drew = W at *
    repeat' (first
    | (refine plan_two ?_ ?_)
    | (refine plan_three ?_ ?_ ?_)
    | (refine plan_append_rd (i := 4) _ _ 22 (by rfl) (by rfl) (by rfl) (.slice a2 ns c2) (u8s s) (.int .u8 0) 1 elemB8 (by rfl) (by rfl) (OwnV.nil _ w1.heap.size _) (by rfl) (sl_rd (SL.out.below (B1.out.trans (B.out.mono B1.out.size)))) (u8s_cells s) (by have := LS.out; have := HNS.out; simp [u8s_length]; omega) (by have := LS.out; have := HNS.out; simp [u8s_length]; omega) B.out.size ?_
       intro v4 W ho4 hk4 hb4 _
       (try (have A8 := Lib.hid (At.app A8.out hk4 (by simp [Value.ownBlock]))))
       (try (have L5 := Lib.hid (At.app L5.out hk4 (by simp [Value.ownBlock]))))
       have O4 : Hid (OwnB W w1.heap.size v4 s) := ownV_B (by simpa using ho4)
       have B := Lib.hid (B.out.trans hb4)
       clear ho4 hk4 hb4
       refine ⟨B.out, ?_⟩
       (simp only [Act.put, List.setIfInBounds_toArray, List.set_cons_zero, List.set_cons_succ]))
    | (refine plan_slice (i := 5) 22 5 4 _ #[.int .u8 0, .int .u8 0, .int .u8 0, .int .u8 1] (by rfl) (by rfl) (by rfl) Tryd.underlying22 (by kernel_rfl) (B.out.alloc B.out.size _) ?_
       have L5 := Lib.hid (at_new W (#[.int .u8 0, .int .u8 0, .int .u8 0, .int .u8 1] : Array Value) 5)
       (try (have A8 := Lib.hid (A8.out.alloc (.cells #[.int .u8 0, .int .u8 0, .int .u8 0, .int .u8 1] 5))))
       (try (have O4 := Lib.hid (OwnB.below O4.out ((Below.refl _ _).alloc (Nat.le_refl _) (.cells #[.int .u8 0, .int .u8 0, .int .u8 0, .int .u8 1] 5)))))
       have BL := Lib.hid B.out.size
       have B := Lib.hid (B.out.alloc B.out.size (.cells #[.int .u8 0, .int .u8 0, .int .u8 0, .int .u8 1] 5))
       (simp only [Act.put, List.setIfInBounds_toArray, List.set_cons_zero, List.set_cons_succ])
       obtain ⟨bl, hbl⟩ : ∃ b, b = W.heap.size := ⟨_, rfl⟩
       rw [← hbl] at L5 BL ⊢
       clear hbl
       generalize W.alloc _ = W at *)
    | (refine plan_append_rd (i := 6) _ _ 22 (by rfl) (by rfl) (by rfl) (.slice (some ⟨bl, 0, none⟩) 4 4) (u8s (be4 1)) (.int .u8 0) 1 elemB8 (by rfl) (by rfl) (ownB_V O4.out) (by rfl) (sl_rd (at_sl (l := be4 1) L5.out rfl)) (u8s_cells (be4 1)) (by have := LS.out; have := HNS.out; simp [u8s_length, be4]; omega) (by have := LS.out; have := HNS.out; simp [u8s_length, be4]; omega) B.out.size ?_
       intro v6 W ho6 hk6 hb6 _
       (try (have A8 := Lib.hid (At.app A8.out hk6 (O4.out.ne_at A8.out (by decide)))))
       have O6 : Hid (OwnB W w1.heap.size v6 (s ++ be4 1)) := ownV_B (by rw [show u8s (s ++ be4 1) = u8s s ++ u8s (be4 1) by simp [u8s]]; exact ho6)
       have B := Lib.hid (B.out.trans hb6)
       clear ho6 hk6 hb6
       refine ⟨B.out, ?_⟩
       (simp only [Act.put, List.setIfInBounds_toArray, List.set_cons_zero, List.set_cons_succ]))
    | (refine plan_call (i := 7) 17 _ _ _ (by kernel_rfl) (by rfl) (by rfl) (by rfl) (by first | exact Mem.ev_none _ | (simp only [List.map_toArray, List.map_cons, List.map_nil, Mem.ev_tmp, List.getD_cons_succ, List.getD_cons_zero] <;> rfl)) ?_
       refine (MO'.out _ _ (B1.out.trans (B.out.mono B1.out.size)) O6.out.sl).mono ?_
       rintro e W ⟨rfl, hbn⟩
       have B := Lib.hid (B.out.trans (hbn.mono B.out.size))
       (try (have A8 := Lib.hid (A8.out.below hbn A8.out.lt)))
       clear hbn
       refine ⟨_, rfl, B.out, ?_⟩
       (simp only [Act.put, List.setIfInBounds_toArray, List.set_cons_zero, List.set_cons_succ]))
    | (refine plan_alloc_any (i := 8) 25 Z (by rfl) (by rfl) (by rfl) ALL.out (fun W' h => h _ _ B.out B.out.size) ?_
       intro b8 W ha hlo _ hbb
       have LO8 := Lib.hid (Nat.le_trans B.out.size hlo)
       (try (have O4 := Lib.hid (OwnB.below O4.out (hbb _ _ (Below.refl _ _) (Nat.le_refl _)))))
       (try (have O6 := Lib.hid (OwnB.below O6.out (hbb _ _ (Below.refl _ _) (Nat.le_refl _)))))
       (try (have L5 := Lib.hid (L5.out.below (hbb _ _ (Below.refl _ _) (Nat.le_refl _)) L5.out.lt)))
       have B := Lib.hid (hbb _ _ B.out B.out.size)
       have A8 := Lib.hid ha
       clear ha hlo hbb
       (simp only [Act.put, List.setIfInBounds_toArray, List.set_cons_zero, List.set_cons_succ]))
    | (refine plan_store_any (i := 9) 25 _ _ b8 G Z 25 (by rfl) (by rfl) (by rfl) (by rfl) (by rfl) (by rfl) (by rw [GS.out]; exact info32) A8.out (by rw [GS.out, ZS.out]) GO.out (fun W' h => h _ _ B.out LO8.out) ?_
       intro W ha _ hbb
       have B := Lib.hid (hbb _ _ B.out LO8.out)
       have A8 := Lib.hid ha
       clear ha hbb))
    all_goals (refine plan_nil ?_; go_wp2_with fail; go_meet; exact ⟨b8, rfl, LO8.out, A8.out, B.out⟩)
  case rest =>
    obtain ⟨bm, rfl, hlo, hat, hb⟩ := hcut
    have LO := Lib.hid hlo; have A2 := Lib.hid (A1.out.below hb A1.out.lt); have M2 := Lib.hid hat; have B2 := Lib.hid (B1.out.trans (hb.mono B1.out.size))
    have WL := Lib.hid (Nat.le_trans B1.out.size hlo); have NE : Hid (w.heap.size ≠ bm) := Nat.ne_of_lt (Nat.lt_of_lt_of_le AL.out hlo)
    have AL2 := Lib.hid A2.out.lt
    obtain ⟨d0, d1, d2, d3⟩ := ask_cells (HA.out ▸ A2.out)
    have C0 := Lib.hid d0; have C1 := Lib.hid d1; have C2 := Lib.hid d2
    clear hlo hat hb d0 d1 d2 d3 A1 B1 AL MO MO' ALL ZS
    have AL := AL2
    go_wp2_with fail
    refine wp_region_plan_in (fun w' => Below wc.heap.size wc w') (.take 0 (.take 1 (.take 2 (.take 3 (.take 5 (.sole 4 (.take 6 .done))))))) (by kernel_rfl) (by kernel_rfl) (by kernel_rfl) (Below.refl _ _).drew ?_
    have B : Hid (Below wc.heap.size wc wc.drew) := (Below.refl _ _).drew
    generalize wc.drew = W at *
    refine plan_field 35 _ 0 w.heap.size 0 ⟨w.heap.size, 0, none⟩ (by rfl) (by rfl) (by rfl) (by first | (with_reducible exact Mem.ev_const _ _) | (with_reducible exact Mem.ev_zero _ _ _) | (with_reducible (apply Eq.trans (Mem.ev_tmp _ _ _)); simp only [List.getD_cons_succ, List.getD_cons_zero] <;> rfl)) (fun wx => by go_simp) ?_
    (simp only [Act.put, List.setIfInBounds_toArray, List.set_cons_zero, List.set_cons_succ])
    refine plan_cell 22 _ _ _ _ (by rfl) (by rfl) (by rfl) (by first | (with_reducible exact Mem.ev_const _ _) | (with_reducible exact Mem.ev_zero _ _ _) | (with_reducible (apply Eq.trans (Mem.ev_tmp _ _ _)); simp only [List.getD_cons_succ, List.getD_cons_zero] <;> rfl)) (fun w' hw' => (hw'.cell (p := ⟨w.heap.size, 0, none⟩) AL.out).trans C0.out) Tryd.underlying22 (by rfl) ?_
    (simp only [Act.put, List.setIfInBounds_toArray, List.set_cons_zero, List.set_cons_succ])
    refine plan_field 35 _ 1 w.heap.size 0 ⟨w.heap.size, 1, none⟩ (by rfl) (by rfl) (by rfl) (by first | (with_reducible exact Mem.ev_const _ _) | (with_reducible exact Mem.ev_zero _ _ _) | (with_reducible (apply Eq.trans (Mem.ev_tmp _ _ _)); simp only [List.getD_cons_succ, List.getD_cons_zero] <;> rfl)) (fun wx => by go_simp) ?_
    (simp only [Act.put, List.setIfInBounds_toArray, List.set_cons_zero, List.set_cons_succ])
    refine plan_cell 22 _ _ _ _ (by rfl) (by rfl) (by rfl) (by first | (with_reducible exact Mem.ev_const _ _) | (with_reducible exact Mem.ev_zero _ _ _) | (with_reducible (apply Eq.trans (Mem.ev_tmp _ _ _)); simp only [List.getD_cons_succ, List.getD_cons_zero] <;> rfl)) (fun w' hw' => (hw'.cell (p := ⟨w.heap.size, 1, none⟩) AL.out).trans C1.out) Tryd.underlying22 (by rfl) ?_
    (simp only [Act.put, List.setIfInBounds_toArray, List.set_cons_zero, List.set_cons_succ])
    refine plan_row 25 _ bm _ G 25 (by rfl) (by rfl) (by rfl) (by first | (with_reducible exact Mem.ev_const _ _) | (with_reducible exact Mem.ev_zero _ _ _) | (with_reducible (apply Eq.trans (Mem.ev_tmp _ _ _)); simp only [List.getD_cons_succ, List.getD_cons_zero] <;> rfl)) (fun w' hw' => M2.out.below hw' M2.out.lt) Tryd.underlying25 (by rfl) (by rw [GS.out]; exact info32) ?_
    (simp only [Act.put, List.setIfInBounds_toArray, List.set_cons_zero, List.set_cons_succ])
    have bo := BO.out
    rw [← HG.out] at bo
    refine plan_call 24 _ _ _ (by kernel_rfl) (by rfl) (by rfl) (by rfl) (by first | exact Mem.ev_none _ | (simp only [List.map_toArray, List.map_cons, List.map_nil, Mem.ev_tmp, List.getD_cons_succ, List.getD_cons_zero] <;> rfl)) ?_
    refine (bo _ (B2.out.trans (B.out.mono B2.out.size))).mono ?_
    rintro e W ⟨rfl, hbn⟩
    have B := Lib.hid (B.out.trans (hbn.mono B.out.size))
    clear hbn
    refine ⟨_, rfl, B.out, ?_⟩
    (simp only [Act.put, List.setIfInBounds_toArray, List.set_cons_zero, List.set_cons_succ])
    have en := EN.out
    rw [← HG.out] at en
    refine plan_bin _ _ _ _ _ _ _ _ (by rfl) (by rfl) (by rfl) (by first | (with_reducible exact Mem.ev_const _ _) | (with_reducible exact Mem.ev_zero _ _ _) | (with_reducible (apply Eq.trans (Mem.ev_tmp _ _ _)); simp only [List.getD_cons_succ, List.getD_cons_zero] <;> rfl)) (by first | (with_reducible exact Mem.ev_const _ _) | (with_reducible exact Mem.ev_zero _ _ _) | (with_reducible (apply Eq.trans (Mem.ev_tmp _ _ _)); simp only [List.getD_cons_succ, List.getD_cons_zero] <;> rfl)) (en _ _) ?_
    (simp only [Act.put, List.setIfInBounds_toArray, List.set_cons_zero, List.set_cons_succ])
    refine plan_nil ?_
    have I0 : Hid (SRInv A0 (u8s (mcs p s 1 0)).toArray w.heap.size bm w W) := ⟨A2.out.below B.out A2.out.lt, by rw [← HG.out]; exact M2.out.below B.out M2.out.lt, (B2.out.trans (B.out.mono B2.out.size))⟩
    obtain ⟨d0, d1, d2, d3⟩ := ask_cells (HA.out ▸ I0.out.a)
    clear B B2 A2 M2 C0 C1 C2 AL AL2 BO EN GS GO HG
    go_wp2_with fail
    clear d0 d1 d2 d3
    go_loopw [40] (fun i wr => ∃ j : Nat, j ≤ r - 1 ∧ i = .int .i64 j ∧ SRInv A0 (u8s (mcs p s 1 j)).toArray w.heap.size bm w wr) (fun i _ => r - (intOf i).toNat)
    case atStart => exact ⟨0, by omega, rfl, I0.out⟩
    case round =>
      clear I0
      obtain ⟨j, hj, rfl, hI⟩ := hrel
      have AL := Lib.hid hI.a.lt
      obtain ⟨d0, d1, d2, d3⟩ := ask_cells (HA.out ▸ hI.a)
      have C0 := Lib.hid d0; have C1 := Lib.hid d1; have C2 := Lib.hid d2
      by_cases hlt : j < r - 1
      · have hlt' : (j : Int) < (r : Int) - 1 := by omega
        obtain ⟨C, hC⟩ : ∃ C, C = (u8s (mcs p s 1 j)).toArray := ⟨_, rfl⟩
        have hCs : C.size = 32 := by rw [hC]; simp [u8s, mcs_length]
        have hm := hI.m
        have hslm : Sl wr.drew (.slice (some ⟨bm, 0, none⟩) 32 32) (mcs p s 1 j) := at_sl hm (mcs_length p s 1 j)
        rw [← hC] at hm
        obtain ⟨D, hD⟩ : ∃ D, D = (u8s (mcs p s 1 (j + 1))).toArray := ⟨_, rfl⟩
        have hDs : D.size = 32 := by rw [hD]; simp [u8s, mcs_length]
        have hDo : D.all (·.oneCell') = true := by rw [hD]; exact u8s_one _
        have mj := fun (wx : World) (v : Value) (h1 : Below w.heap.size w wx) (h2 : Sl wx v (mcs p s 1 j)) => MJ.out j wx v h1 h2
        rw [← hD] at mj
        have II := Lib.hid hI; have CS := Lib.hid hCs; have DS := Lib.hid hDs; have DO := Lib.hid hDo; have HD := Lib.hid hD; have M3 := Lib.hid hm; have MK := Lib.hid mj; have SM := Lib.hid hslm
        clear hI hCs hDs hDo hD hC hm mj hslm d0 d1 d2 d3
        go_wp2_with fail
        refine wp_region_plan_in (fun w' => But bm wr w') (.take 0 (.take 1 (.take 2 (.sole 3 (.sole 4 .done))))) (by kernel_rfl) (by kernel_rfl) (by kernel_rfl) ⟨Nat.le_refl _, fun _ _ _ => rfl⟩ ?_
        have B : Hid (Below wr.heap.size wr wr.drew) := (Below.refl _ _).drew
        generalize wr.drew = W at *
        refine plan_field 35 _ 0 w.heap.size 0 ⟨w.heap.size, 0, none⟩ (by rfl) (by rfl) (by rfl) (by first | (with_reducible exact Mem.ev_const _ _) | (with_reducible exact Mem.ev_zero _ _ _) | (with_reducible (apply Eq.trans (Mem.ev_tmp _ _ _)); simp only [List.getD_cons_succ, List.getD_cons_zero] <;> rfl)) (fun wx => by go_simp) ?_
        (simp only [Act.put, List.setIfInBounds_toArray, List.set_cons_zero, List.set_cons_succ])
        refine plan_cell 22 _ _ _ _ (by rfl) (by rfl) (by rfl) (by first | (with_reducible exact Mem.ev_const _ _) | (with_reducible exact Mem.ev_zero _ _ _) | (with_reducible (apply Eq.trans (Mem.ev_tmp _ _ _)); simp only [List.getD_cons_succ, List.getD_cons_zero] <;> rfl)) (fun w' hw' => (World.cell?_of_block (a := ⟨w.heap.size, 0, none⟩) (hw'.block _ AL.out NE.out)).trans C0.out) Tryd.underlying22 (by rfl) ?_
        (simp only [Act.put, List.setIfInBounds_toArray, List.set_cons_zero, List.set_cons_succ])
        refine plan_cut _ _ 32 5 bm 0 (by rfl) (by rfl) (by rfl) (by first | (with_reducible exact Mem.ev_const _ _) | (with_reducible exact Mem.ev_zero _ _ _) | (with_reducible (apply Eq.trans (Mem.ev_tmp _ _ _)); simp only [List.getD_cons_succ, List.getD_cons_zero] <;> rfl)) Tryd.underlying25 infoB ?_
        (simp only [Act.put, List.setIfInBounds_toArray, List.set_cons_zero, List.set_cons_succ])
        refine plan_call 17 _ _ _ (by kernel_rfl) (by rfl) (by rfl) (by rfl) (by first | exact Mem.ev_none _ | (simp only [List.map_toArray, List.map_cons, List.map_nil, Mem.ev_tmp, List.getD_cons_succ, List.getD_cons_zero] <;> rfl)) ?_
        refine (MK.out _ _ (II.out.b.trans (B.out.mono II.out.b.size)) SM.out).mono ?_
        rintro e W ⟨rfl, hbn⟩
        have B := Lib.hid (B.out.trans (hbn.mono B.out.size))
        clear hbn
        refine ⟨_, rfl, (But.refl _ _).below B.out, ?_⟩
        (simp only [Act.put, List.setIfInBounds_toArray, List.set_cons_zero, List.set_cons_succ])
        refine plan_store 25 _ _ bm D C 25 (by rfl) (by rfl) (by rfl) (by rfl) (by first | (with_reducible exact Mem.ev_const _ _) | (with_reducible exact Mem.ev_zero _ _ _) | (with_reducible (apply Eq.trans (Mem.ev_tmp _ _ _)); simp only [List.getD_cons_succ, List.getD_cons_zero] <;> rfl)) (by first | (with_reducible exact Mem.ev_const _ _) | (with_reducible exact Mem.ev_zero _ _ _) | (with_reducible (apply Eq.trans (Mem.ev_tmp _ _ _)); simp only [List.getD_cons_succ, List.getD_cons_zero] <;> rfl)) (by rw [DS.out]; exact info32) (M3.out.below B.out M3.out.lt) (by rw [DS.out, CS.out]) DO.out (((But.refl _ _).below B.out).row (by simp) (fun k hk => setRow_other _ _ _ _ hk)) ?_
        refine plan_nil ?_
        have I4 : Hid (SRInv A0 (u8s (mcs p s 1 (j + 1))).toArray w.heap.size bm w (W.setRow bm D)) := ⟨(II.out.a.below B.out II.out.a.lt).row_other D NE.out, by rw [← HD.out]; exact (M3.out.below B.out M3.out.lt).row D, below_row (II.out.b.trans (B.out.mono II.out.b.size)) WL.out D⟩
        generalize W.setRow bm D = W4 at *
        go_wp2_with fail
        go_roundw
        case rel => exact ⟨j + 1, by omega, by go_num, I4.out⟩
        case measure => simp [intOf]; omega
      · have hjr : j = r - 1 := by omega
        have hge : ¬ (j : Int) < (r : Int) - 1 := by omega
        have hr1 : ((r : Int) - 1) = ((r - 1 : Nat) : Int) := by omega
        obtain ⟨C, hC⟩ : ∃ C, C = (u8s (mcs p s 1 (r - 1))).toArray := ⟨_, rfl⟩
        have hCs : C.size = 32 := by rw [hC]; simp [u8s, mcs_length]
        have hm := hI.m
        rw [hjr, ← hC] at hm
        have ba := fun (wx : World) (h : Below w.heap.size w wx) => BA.out wx (by omega) (by omega) h
        have bb := fun (wx : World) (h : Below w.heap.size w wx) => BB.out wx (by omega) (by omega) h
        have jo := JO.out
        rw [← hC] at jo
        have B2 := Lib.hid hI.b; have M2 := Lib.hid hm; have CS := Lib.hid hCs; have FA := Lib.hid ba; have FB := Lib.hid bb; have FJ := Lib.hid jo; have HR := Lib.hid hr1
        clear hI hm hCs ba bb jo hC hjr hlt hj d0 d1 d2 d3 hr1
        go_wp2_with fail
        refine wp_region_plan_in (fun w' => Below wr.heap.size wr w') (.take 0 (.take 1 (.take 2 (.take 3 (.take 4 (.take 5 (.take 6 (.take 8 (.take 10 (.take 11 (.take 12 (.take 13 (.take 14 (.take 15 (.sole 7 (.sole 9 (.sole 16 (.take 17 (.take 18 (.sole 19 (.take 20 (.take 21 .done)))))))))))))))))))))) (by kernel_rfl) (by kernel_rfl) (by kernel_rfl) (Below.refl _ _).drew ?_
        have B : Hid (Below wr.heap.size wr wr.drew) := (Below.refl _ _).drew
        generalize wr.drew = W at *
        refine plan_field 35 _ 0 w.heap.size 0 ⟨w.heap.size, 0, none⟩ (by rfl) (by rfl) (by rfl) (by first | (with_reducible exact Mem.ev_const _ _) | (with_reducible exact Mem.ev_zero _ _ _) | (with_reducible (apply Eq.trans (Mem.ev_tmp _ _ _)); simp only [List.getD_cons_succ, List.getD_cons_zero] <;> rfl)) (fun wx => by go_simp) ?_
        (simp only [Act.put, List.setIfInBounds_toArray, List.set_cons_zero, List.set_cons_succ])
        refine plan_cell 22 _ _ _ _ (by rfl) (by rfl) (by rfl) (by first | (with_reducible exact Mem.ev_const _ _) | (with_reducible exact Mem.ev_zero _ _ _) | (with_reducible (apply Eq.trans (Mem.ev_tmp _ _ _)); simp only [List.getD_cons_succ, List.getD_cons_zero] <;> rfl)) (fun w' hw' => (hw'.cell (p := ⟨w.heap.size, 0, none⟩) AL.out).trans C0.out) Tryd.underlying22 (by rfl) ?_
        (simp only [Act.put, List.setIfInBounds_toArray, List.set_cons_zero, List.set_cons_succ])
        refine plan_field 35 _ 1 w.heap.size 0 ⟨w.heap.size, 1, none⟩ (by rfl) (by rfl) (by rfl) (by first | (with_reducible exact Mem.ev_const _ _) | (with_reducible exact Mem.ev_zero _ _ _) | (with_reducible (apply Eq.trans (Mem.ev_tmp _ _ _)); simp only [List.getD_cons_succ, List.getD_cons_zero] <;> rfl)) (fun wx => by go_simp) ?_
        (simp only [Act.put, List.setIfInBounds_toArray, List.set_cons_zero, List.set_cons_succ])
        refine plan_cell 22 _ _ _ _ (by rfl) (by rfl) (by rfl) (by first | (with_reducible exact Mem.ev_const _ _) | (with_reducible exact Mem.ev_zero _ _ _) | (with_reducible (apply Eq.trans (Mem.ev_tmp _ _ _)); simp only [List.getD_cons_succ, List.getD_cons_zero] <;> rfl)) (fun w' hw' => (hw'.cell (p := ⟨w.heap.size, 1, none⟩) AL.out).trans C1.out) Tryd.underlying22 (by rfl) ?_
        (simp only [Act.put, List.setIfInBounds_toArray, List.set_cons_zero, List.set_cons_succ])
        refine plan_field 35 _ 2 w.heap.size 0 ⟨w.heap.size, 2, none⟩ (by rfl) (by rfl) (by rfl) (by first | (with_reducible exact Mem.ev_const _ _) | (with_reducible exact Mem.ev_zero _ _ _) | (with_reducible (apply Eq.trans (Mem.ev_tmp _ _ _)); simp only [List.getD_cons_succ, List.getD_cons_zero] <;> rfl)) (fun wx => by go_simp) ?_
        (simp only [Act.put, List.setIfInBounds_toArray, List.set_cons_zero, List.set_cons_succ])
        refine plan_cell 3 _ _ _ _ (by rfl) (by rfl) (by rfl) (by first | (with_reducible exact Mem.ev_const _ _) | (with_reducible exact Mem.ev_zero _ _ _) | (with_reducible (apply Eq.trans (Mem.ev_tmp _ _ _)); simp only [List.getD_cons_succ, List.getD_cons_zero] <;> rfl)) (fun w' hw' => (hw'.cell (p := ⟨w.heap.size, 2, none⟩) AL.out).trans C2.out) Tryd.underlying3 (by rfl) ?_
        (simp only [Act.put, List.setIfInBounds_toArray, List.set_cons_zero, List.set_cons_succ])
        refine plan_bin _ _ _ _ _ _ _ _ (by rfl) (by rfl) (by rfl) (by first | (with_reducible exact Mem.ev_const _ _) | (with_reducible exact Mem.ev_zero _ _ _) | (with_reducible (apply Eq.trans (Mem.ev_tmp _ _ _)); simp only [List.getD_cons_succ, List.getD_cons_zero] <;> rfl)) (by first | (with_reducible exact Mem.ev_const _ _) | (with_reducible exact Mem.ev_zero _ _ _) | (with_reducible (apply Eq.trans (Mem.ev_tmp _ _ _)); simp only [List.getD_cons_succ, List.getD_cons_zero] <;> rfl)) (fun wx => o_isub _ _ _ _ (r : Int) 1 ((r - 1 : Nat) : Int) (by omega) (by omega) (by omega) wx) ?_
        (simp only [Act.put, List.setIfInBounds_toArray, List.set_cons_zero, List.set_cons_succ])
        refine plan_row 25 _ bm _ C 25 (by rfl) (by rfl) (by rfl) (by first | (with_reducible exact Mem.ev_const _ _) | (with_reducible exact Mem.ev_zero _ _ _) | (with_reducible (apply Eq.trans (Mem.ev_tmp _ _ _)); simp only [List.getD_cons_succ, List.getD_cons_zero] <;> rfl)) (fun w' hw' => M2.out.below hw' M2.out.lt) Tryd.underlying25 (by rfl) (by rw [CS.out]; exact info32) ?_
        (simp only [Act.put, List.setIfInBounds_toArray, List.set_cons_zero, List.set_cons_succ])
        refine plan_field 35 _ 0 w.heap.size 0 ⟨w.heap.size, 0, none⟩ (by rfl) (by rfl) (by rfl) (by first | (with_reducible exact Mem.ev_const _ _) | (with_reducible exact Mem.ev_zero _ _ _) | (with_reducible (apply Eq.trans (Mem.ev_tmp _ _ _)); simp only [List.getD_cons_succ, List.getD_cons_zero] <;> rfl)) (fun wx => by go_simp) ?_
        (simp only [Act.put, List.setIfInBounds_toArray, List.set_cons_zero, List.set_cons_succ])
        refine plan_cell 22 _ _ _ _ (by rfl) (by rfl) (by rfl) (by first | (with_reducible exact Mem.ev_const _ _) | (with_reducible exact Mem.ev_zero _ _ _) | (with_reducible (apply Eq.trans (Mem.ev_tmp _ _ _)); simp only [List.getD_cons_succ, List.getD_cons_zero] <;> rfl)) (fun w' hw' => (hw'.cell (p := ⟨w.heap.size, 0, none⟩) AL.out).trans C0.out) Tryd.underlying22 (by rfl) ?_
        (simp only [Act.put, List.setIfInBounds_toArray, List.set_cons_zero, List.set_cons_succ])
        refine plan_field 35 _ 1 w.heap.size 0 ⟨w.heap.size, 1, none⟩ (by rfl) (by rfl) (by rfl) (by first | (with_reducible exact Mem.ev_const _ _) | (with_reducible exact Mem.ev_zero _ _ _) | (with_reducible (apply Eq.trans (Mem.ev_tmp _ _ _)); simp only [List.getD_cons_succ, List.getD_cons_zero] <;> rfl)) (fun wx => by go_simp) ?_
        (simp only [Act.put, List.setIfInBounds_toArray, List.set_cons_zero, List.set_cons_succ])
        refine plan_cell 22 _ _ _ _ (by rfl) (by rfl) (by rfl) (by first | (with_reducible exact Mem.ev_const _ _) | (with_reducible exact Mem.ev_zero _ _ _) | (with_reducible (apply Eq.trans (Mem.ev_tmp _ _ _)); simp only [List.getD_cons_succ, List.getD_cons_zero] <;> rfl)) (fun w' hw' => (hw'.cell (p := ⟨w.heap.size, 1, none⟩) AL.out).trans C1.out) Tryd.underlying22 (by rfl) ?_
        (simp only [Act.put, List.setIfInBounds_toArray, List.set_cons_zero, List.set_cons_succ])
        refine plan_field 35 _ 2 w.heap.size 0 ⟨w.heap.size, 2, none⟩ (by rfl) (by rfl) (by rfl) (by first | (with_reducible exact Mem.ev_const _ _) | (with_reducible exact Mem.ev_zero _ _ _) | (with_reducible (apply Eq.trans (Mem.ev_tmp _ _ _)); simp only [List.getD_cons_succ, List.getD_cons_zero] <;> rfl)) (fun wx => by go_simp) ?_
        (simp only [Act.put, List.setIfInBounds_toArray, List.set_cons_zero, List.set_cons_succ])
        refine plan_cell 3 _ _ _ _ (by rfl) (by rfl) (by rfl) (by first | (with_reducible exact Mem.ev_const _ _) | (with_reducible exact Mem.ev_zero _ _ _) | (with_reducible (apply Eq.trans (Mem.ev_tmp _ _ _)); simp only [List.getD_cons_succ, List.getD_cons_zero] <;> rfl)) (fun w' hw' => (hw'.cell (p := ⟨w.heap.size, 2, none⟩) AL.out).trans C2.out) Tryd.underlying3 (by rfl) ?_
        (simp only [Act.put, List.setIfInBounds_toArray, List.set_cons_zero, List.set_cons_succ])
        refine plan_call 24 _ _ _ (by kernel_rfl) (by rfl) (by rfl) (by rfl) (by first | exact Mem.ev_none _ | (simp only [List.map_toArray, List.map_cons, List.map_nil, Mem.ev_tmp, List.getD_cons_succ, List.getD_cons_zero] <;> rfl)) ?_
        refine (FA.out _ (B2.out.trans (B.out.mono B2.out.size))).mono ?_
        rintro e W ⟨rfl, hbn⟩
        have B := Lib.hid (B.out.trans (hbn.mono B.out.size))
        clear hbn
        refine ⟨_, rfl, B.out, ?_⟩
        (simp only [Act.put, List.setIfInBounds_toArray, List.set_cons_zero, List.set_cons_succ])
        refine plan_call 26 _ _ _ (by kernel_rfl) (by rfl) (by rfl) (by rfl) (by first | exact Mem.ev_none _ | (simp only [List.map_toArray, List.map_cons, List.map_nil, Mem.ev_tmp, List.getD_cons_succ, List.getD_cons_zero] <;> rfl)) ?_
        refine (FJ.out _).mono ?_
        rintro e W ⟨rfl, hbn⟩
        have B := Lib.hid (B.out.trans (hbn.mono B.out.size))
        clear hbn
        refine ⟨_, rfl, B.out, ?_⟩
        (simp only [Act.put, List.setIfInBounds_toArray, List.set_cons_zero, List.set_cons_succ])
        refine plan_call 24 _ _ _ (by kernel_rfl) (by rfl) (by rfl) (by rfl) (by first | exact Mem.ev_none _ | (simp only [List.map_toArray, List.map_cons, List.map_nil, Mem.ev_tmp, List.getD_cons_succ, List.getD_cons_zero] <;> rfl)) ?_
        refine (FB.out _ (B2.out.trans (B.out.mono B2.out.size))).mono ?_
        rintro e W ⟨rfl, hbn⟩
        have B := Lib.hid (B.out.trans (hbn.mono B.out.size))
        clear hbn
        refine ⟨_, rfl, B.out, ?_⟩
        (simp only [Act.put, List.setIfInBounds_toArray, List.set_cons_zero, List.set_cons_succ])
        refine plan_bin _ _ _ _ _ _ _ _ (by rfl) (by rfl) (by rfl) (by first | (with_reducible exact Mem.ev_const _ _) | (with_reducible exact Mem.ev_zero _ _ _) | (with_reducible (apply Eq.trans (Mem.ev_tmp _ _ _)); simp only [List.getD_cons_succ, List.getD_cons_zero] <;> rfl)) (by first | (with_reducible exact Mem.ev_const _ _) | (with_reducible exact Mem.ev_zero _ _ _) | (with_reducible (apply Eq.trans (Mem.ev_tmp _ _ _)); simp only [List.getD_cons_succ, List.getD_cons_zero] <;> rfl)) (EQ.out _ _) ?_
        (simp only [Act.put, List.setIfInBounds_toArray, List.set_cons_zero, List.set_cons_succ])
        (first | (refine plan_move _ _ (by rfl) (by rfl) (.inl (by rfl)) (by first | (with_reducible exact Mem.ev_const _ _) | (with_reducible exact Mem.ev_zero _ _ _) | (with_reducible (apply Eq.trans (Mem.ev_tmp _ _ _)); simp only [List.getD_cons_succ, List.getD_cons_zero] <;> rfl)) ?_) | (refine plan_move _ _ (by rfl) (by rfl) (.inr (by rfl)) (by first | (with_reducible exact Mem.ev_const _ _) | (with_reducible exact Mem.ev_zero _ _ _) | (with_reducible (apply Eq.trans (Mem.ev_tmp _ _ _)); simp only [List.getD_cons_succ, List.getD_cons_zero] <;> rfl)) ?_) | (refine plan_pick_t _ _ _ _ (by rfl) (by rfl) (by rfl) (by first | (with_reducible exact Mem.ev_const _ _) | (with_reducible exact Mem.ev_zero _ _ _) | (with_reducible (apply Eq.trans (Mem.ev_tmp _ _ _)); simp only [List.getD_cons_succ, List.getD_cons_zero] <;> rfl)) (by first | (with_reducible exact Mem.ev_const _ _) | (with_reducible exact Mem.ev_zero _ _ _) | (with_reducible (apply Eq.trans (Mem.ev_tmp _ _ _)); simp only [List.getD_cons_succ, List.getD_cons_zero] <;> rfl)) ?_) | (refine plan_pick_f _ _ _ _ (by rfl) (by rfl) (by rfl) (by first | (with_reducible exact Mem.ev_const _ _) | (with_reducible exact Mem.ev_zero _ _ _) | (with_reducible (apply Eq.trans (Mem.ev_tmp _ _ _)); simp only [List.getD_cons_succ, List.getD_cons_zero] <;> rfl)) (by first | (with_reducible exact Mem.ev_const _ _) | (with_reducible exact Mem.ev_zero _ _ _) | (with_reducible (apply Eq.trans (Mem.ev_tmp _ _ _)); simp only [List.getD_cons_succ, List.getD_cons_zero] <;> rfl)) ?_))
        (simp only [Act.put, List.setIfInBounds_toArray, List.set_cons_zero, List.set_cons_succ])
        refine plan_call 21 _ _ _ (by kernel_rfl) (by rfl) (by rfl) (by rfl) (by first | exact Mem.ev_none _ | (simp only [List.map_toArray, List.map_cons, List.map_nil, Mem.ev_tmp, List.getD_cons_succ, List.getD_cons_zero] <;> rfl)) ?_
        refine (HAL.out _ (B2.out.trans (B.out.mono B2.out.size))).mono ?_
        rintro e W ⟨rfl, hbn⟩
        have B := Lib.hid (B.out.trans (hbn.mono B.out.size))
        clear hbn
        refine ⟨_, rfl, B.out, ?_⟩
        (simp only [Act.put, List.setIfInBounds_toArray, List.set_cons_zero, List.set_cons_succ])
        (first | (refine plan_move _ _ (by rfl) (by rfl) (.inl (by rfl)) (by first | (with_reducible exact Mem.ev_const _ _) | (with_reducible exact Mem.ev_zero _ _ _) | (with_reducible (apply Eq.trans (Mem.ev_tmp _ _ _)); simp only [List.getD_cons_succ, List.getD_cons_zero] <;> rfl)) ?_) | (refine plan_move _ _ (by rfl) (by rfl) (.inr (by rfl)) (by first | (with_reducible exact Mem.ev_const _ _) | (with_reducible exact Mem.ev_zero _ _ _) | (with_reducible (apply Eq.trans (Mem.ev_tmp _ _ _)); simp only [List.getD_cons_succ, List.getD_cons_zero] <;> rfl)) ?_) | (refine plan_pick_t _ _ _ _ (by rfl) (by rfl) (by rfl) (by first | (with_reducible exact Mem.ev_const _ _) | (with_reducible exact Mem.ev_zero _ _ _) | (with_reducible (apply Eq.trans (Mem.ev_tmp _ _ _)); simp only [List.getD_cons_succ, List.getD_cons_zero] <;> rfl)) (by first | (with_reducible exact Mem.ev_const _ _) | (with_reducible exact Mem.ev_zero _ _ _) | (with_reducible (apply Eq.trans (Mem.ev_tmp _ _ _)); simp only [List.getD_cons_succ, List.getD_cons_zero] <;> rfl)) ?_) | (refine plan_pick_f _ _ _ _ (by rfl) (by rfl) (by rfl) (by first | (with_reducible exact Mem.ev_const _ _) | (with_reducible exact Mem.ev_zero _ _ _) | (with_reducible (apply Eq.trans (Mem.ev_tmp _ _ _)); simp only [List.getD_cons_succ, List.getD_cons_zero] <;> rfl)) (by first | (with_reducible exact Mem.ev_const _ _) | (with_reducible exact Mem.ev_zero _ _ _) | (with_reducible (apply Eq.trans (Mem.ev_tmp _ _ _)); simp only [List.getD_cons_succ, List.getD_cons_zero] <;> rfl)) ?_))
        (simp only [Act.put, List.setIfInBounds_toArray, List.set_cons_zero, List.set_cons_succ])
        (first | (refine plan_move _ _ (by rfl) (by rfl) (.inl (by rfl)) (by first | (with_reducible exact Mem.ev_const _ _) | (with_reducible exact Mem.ev_zero _ _ _) | (with_reducible (apply Eq.trans (Mem.ev_tmp _ _ _)); simp only [List.getD_cons_succ, List.getD_cons_zero] <;> rfl)) ?_) | (refine plan_move _ _ (by rfl) (by rfl) (.inr (by rfl)) (by first | (with_reducible exact Mem.ev_const _ _) | (with_reducible exact Mem.ev_zero _ _ _) | (with_reducible (apply Eq.trans (Mem.ev_tmp _ _ _)); simp only [List.getD_cons_succ, List.getD_cons_zero] <;> rfl)) ?_) | (refine plan_pick_t _ _ _ _ (by rfl) (by rfl) (by rfl) (by first | (with_reducible exact Mem.ev_const _ _) | (with_reducible exact Mem.ev_zero _ _ _) | (with_reducible (apply Eq.trans (Mem.ev_tmp _ _ _)); simp only [List.getD_cons_succ, List.getD_cons_zero] <;> rfl)) (by first | (with_reducible exact Mem.ev_const _ _) | (with_reducible exact Mem.ev_zero _ _ _) | (with_reducible (apply Eq.trans (Mem.ev_tmp _ _ _)); simp only [List.getD_cons_succ, List.getD_cons_zero] <;> rfl)) ?_) | (refine plan_pick_f _ _ _ _ (by rfl) (by rfl) (by rfl) (by first | (with_reducible exact Mem.ev_const _ _) | (with_reducible exact Mem.ev_zero _ _ _) | (with_reducible (apply Eq.trans (Mem.ev_tmp _ _ _)); simp only [List.getD_cons_succ, List.getD_cons_zero] <;> rfl)) (by first | (with_reducible exact Mem.ev_const _ _) | (with_reducible exact Mem.ev_zero _ _ _) | (with_reducible (apply Eq.trans (Mem.ev_tmp _ _ _)); simp only [List.getD_cons_succ, List.getD_cons_zero] <;> rfl)) ?_))
        (simp only [Act.put, List.setIfInBounds_toArray, List.set_cons_zero, List.set_cons_succ])
        refine plan_nil ?_
        go_wp2_with fail
        go_ret
        exact ⟨rfl, (B2.out.trans (B.out.mono B2.out.size))⟩
theorem rounds_any (p s : List (BitVec 8)) (r size : Int) (vp vs : Value) (w : World) (hp : Sl w vp p) (hs : Sl w vs s) (hL : Tabs w) :
    Calls Tryd.prog 8 #[.agg (askRow vp vs r size)] w fun e w' => e = .returned (.bool true) ∧ Below w.heap.size w w' := by
  cases hf : farB p.length s.length r 0
  · have h := farB_no hf
    by_cases h1 : r < 2
    · exact rounds_few p s r size vp vs w hp hs hf h1 hL
    · by_cases h2 : 10000 < r
      · exact rounds_many p s r size vp vs w hp hs hf h1 h2 hL
      · obtain ⟨r', rfl⟩ : ∃ n : Nat, r = (n : Int) := ⟨r.toNat, by omega⟩
        exact rounds_near p s r' size vp vs w hp hs hf (by omega) (by omega) h.1 h.2.1 hL
  · exact rounds_far p s r size vp vs w hp hs hf hL
end Sha
end Go.Proofs.YtngegegomkclbaaDoor
