/- The document's Parse: its walk. -/
import Derived.Test.YtknaimpnkflfnaaAncLay
import Derived.Test.YtknaimpnkflfnaaAncParM
import Derived.Deep.QuietTactic
import Derived.BigQuiet
namespace Go.Proofs.Ytknaimpnkflfnaa
namespace Sha
open Go.RowKit Mem
set_option maxRecDepth 100000 in
set_option maxHeartbeats 2000000 in
theorem rparse_bad (b : List (BitVec 8)) (v : Value) (w : World) (hv : Sl w v b) (hl : b.length ≤ 1000) (h : b.length ≠ 128) :
    Calls Try.prog 15 #[v] w fun e w' => e = .returned (.tuple #[.agg (ancC zanc), .int .i64 (if b.length < 128 then 4 else 3)]) ∧ Below w.heap.size w w' := by
  obtain ⟨a0, cap, rfl, _, _⟩ := hv
  obtain ⟨n, hn⟩ : ∃ n, n = b.length := ⟨_, rfl⟩
  rw [← hn] at h hl ⊢
  clear hn
  obtain ⟨Z, hZ⟩ : ∃ Z, Z = ancC zanc := ⟨_, rfl⟩
  have zs : Z.size = 71 := by rw [hZ]; exact ancC_size zanc_wf
  have zo : Z.all (·.oneCell') = true := by rw [hZ]; exact ancC_one _
  have hx : ∀ w, (zeroValue 26).run Try.prog w = .ok (.agg Z) w := by rw [hZ]; exact zeroAncR
  have bn : ∀ w, (Instr.build 26 #[]).run Try.prog w = .ok (.agg Z) w := by rw [hZ]; exact buildR0
  rw [← hZ]
  have az := at_new w Z 26
  have bz : Below w.heap.size w (w.alloc (.cells Z 26)) := (Below.refl _ _).alloc (Nat.le_refl _) _
  have ZS := Lib.hid zs; have ZO := Lib.hid zo; have BN := Lib.hid bn; have AZ := Lib.hid az; have BZ := Lib.hid bz
  clear zs zo bn az bz hZ
  by_cases hs : n < 128
  · have g : (n : Int) < 128 := by omega
    rw [if_pos hs]
    go_enter Try.func15, Try.ntmps15
    go_upto_region 1 with fail
    clear hx
    generalize w.alloc (.cells Z 26) = w1 at *
    go_wp2_with (first
      | (refine Mem.wpList_build (by rfl) 26 _ #[] (.agg Z) (by rfl) (by simp) BN.out ?_)
      | (refine wpList_store_all (by rfl) 26 _ _ (by rfl) (by rfl) w.heap.size Z (by rfl) (by rfl) (by rw [ZS.out]; exact infoAncR) Z 26 AZ.out (by rfl) ZO.out ?_))
    try simp only [Exit.inBlock, Exit.then]
    refine ret_row_tmp (by rfl) w.heap.size 26 Z _ _ (by rfl) (by rfl) (AZ.out.row Z) Try.underlying26 (by rfl) (by rw [ZS.out]; exact infoAncR) ?_
    exact ⟨rfl, below_row BZ.out (Nat.le_refl _) Z⟩
  · have g : ¬ (n : Int) < 128 := by omega
    have g2 : (128 : Int) < (n : Int) := by omega
    rw [if_neg hs]
    go_enter Try.func15, Try.ntmps15
    go_upto_region 1 with fail
    clear hx
    generalize w.alloc (.cells Z 26) = w1 at *
    go_wp2_with (first
      | (refine Mem.wpList_build (by rfl) 26 _ #[] (.agg Z) (by rfl) (by simp) BN.out ?_)
      | (refine wpList_store_all (by rfl) 26 _ _ (by rfl) (by rfl) w.heap.size Z (by rfl) (by rfl) (by rw [ZS.out]; exact infoAncR) Z 26 AZ.out (by rfl) ZO.out ?_))
    try simp only [Exit.inBlock, Exit.then]
    refine ret_row_tmp (by rfl) w.heap.size 26 Z _ _ (by rfl) (by rfl) (AZ.out.row Z) Try.underlying26 (by rfl) (by rw [ZS.out]; exact infoAncR) ?_
    exact ⟨rfl, below_row BZ.out (Nat.le_refl _) Z⟩
theorem conv_bi (x : Nat) (_h : x < 256) (w : World) : (convert 5 3 (.int .u8 (x : Int))).run Try.prog w = .ok (.int .i64 (x : Int)) w := by
  have h2 : IntKind.i64.wrap (x : Int) = (x : Int) := by simp [IntKind.wrap, IntKind.bits, IntKind.signed]; omega
  go_simp
theorem plan_piece {ops : Array Oper} {Q : Exit → Act → World → Prop} {S : World → Prop} {w : World} {a : Act} {o : Oper} {i : Nat} {r : Plan} (ty : TypeId) (x ix jx : Operand) (ho : ops.toList[i]? = some o) (hw : Region.wanted o (yielded ops a.tmps) = true) (hop : o.op = .slice ty x (some ix) (some jx) none)
    (hu : Try.prog.underlying ty = some (.slice 5)) (a0 : Option Addr) (len cap k m : Nat) (hx : a.eval x = .slice a0 len cap) (hi : a.eval ix = .int .i64 (k : Int)) (hj : a.eval jx = .int .i64 (m : Int)) (hk : k ≤ m) (hm : m ≤ len) (hc : len ≤ cap)
    (h : wpPlan Try.prog ops Q S r (a.put o.dst (.slice (pieceA a0 cap k) (m - k) (cap - k))) w) : wpPlan Try.prog ops Q S (.take i r) a w :=
  plan_take _ ho hw (fun w' _ => by
    have hr := (slice_run ty 5 hu infoB a0 len cap k m hk hm hc w').1
    unfold execOp
    simp only [hop, hx, hi, hj, Option.map_some, Option.map_none, Sem.run_bind, hr, Result.andThen_ok, Sem.run_pure]) h
/-- The anchor, so many bytes of each of its digests filled in. -/
def ancJ (b : List (BitVec 8)) (j : Nat) : Anc := { ancOf b with head := rowA (ancOf b).head j, root := rowA (ancOf b).root j }
def ancJ2 (b : List (BitVec 8)) (j : Nat) : Anc := { ancOf b with head := rowA (ancOf b).head (j + 1), root := rowA (ancOf b).root j }
theorem ancJ_wf (b : List (BitVec 8)) (h : b.length = 128) (j : Nat) (hj : j ≤ 32) : (ancJ b j).Wf := by
  have k := ancOf_wf b h
  exact ⟨k.ver0, k.ver1, k.pages0, k.pages1, k.epoch, k.hp0, k.hp1, rowA_length _ _ k.head hj, k.rp0, k.rp1, k.re, rowA_length _ _ k.root hj, k.com⟩
theorem ancJ2_wf (b : List (BitVec 8)) (h : b.length = 128) (j : Nat) (hj : j < 32) : (ancJ2 b j).Wf := by
  have k := ancOf_wf b h
  exact ⟨k.ver0, k.ver1, k.pages0, k.pages1, k.epoch, k.hp0, k.hp1, rowA_length _ _ k.head (by omega), k.rp0, k.rp1, k.re, rowA_length _ _ k.root (by omega), k.com⟩
theorem ancJ_all (b : List (BitVec 8)) (h : b.length = 128) : ancJ b 32 = ancOf b := by
  have k := ancOf_wf b h
  unfold ancJ
  rw [rowA_all _ k.head, rowA_all _ k.root]
theorem ancOf_headAt (b : List (BitVec 8)) (j : Nat) (hj : j < 32) : (ancOf b).head.getD j 0 = b.getD (8 + j) 0 := by
  simp [ancOf, List.getD_eq_getElem?_getD, hj]
theorem ancOf_rootAt (b : List (BitVec 8)) (j : Nat) (hj : j < 32) : (ancOf b).root.getD j 0 = b.getD (45 + j) 0 := by
  simp [ancOf, List.getD_eq_getElem?_getD, hj]
theorem ancJ_set1 (b : List (BitVec 8)) (h : b.length = 128) (j : Nat) (hj : j < 32) : (ancC (ancJ b j)).setIfInBounds (4 + j) (.int .u8 ((b.getD (8 + j) 0).toNat : Int)) = ancC (ancJ2 b j) := by
  have k := ancOf_wf b h
  rw [anc_setHead (ancJ_wf b h j (by omega)) j hj]
  congr 1
  unfold ancJ ancJ2
  simp only
  rw [← ancOf_headAt b j hj, rowA_set _ _ k.head hj]
theorem ancJ_set2 (b : List (BitVec 8)) (h : b.length = 128) (j : Nat) (hj : j < 32) : (ancC (ancJ2 b j)).setIfInBounds (38 + j) (.int .u8 ((b.getD (45 + j) 0).toNat : Int)) = ancC (ancJ b (j + 1)) := by
  have k := ancOf_wf b h
  rw [anc_setRoot (ancJ2_wf b h j hj) j hj]
  congr 1
  unfold ancJ ancJ2
  simp only
  rw [← ancOf_rootAt b j hj, rowA_set _ _ k.root hj]
theorem ancJ_zero (b : List (BitVec 8)) (h : b.length = 128) : ancJ b 0 = ⟨((b.getD 0 0).toNat : Int), (leN ((b.drop 1).take (3 - 1)) : Int), leN ((b.drop 3).take (7 - 3)), ((b.getD 7 0).toNat : Int), Z32b, ((b.getD 40 0).toNat : Int), leN ((b.drop 41).take (45 - 41)), Z32b, leN ((b.drop 77).take (85 - 77))⟩ := by
  unfold ancJ ancOf
  rw [rowA_zero, rowA_zero, leN_one b 0 (by omega), leN_one b 7 (by omega), leN_one b 40 (by omega)]
set_option maxRecDepth 100000 in
set_option maxHeartbeats 16000000 in
theorem rparse_128 (b : List (BitVec 8)) (v : Value) (w : World) (hv : Sl w v b) (hl : b.length = 128) :
    Calls Try.prog 15 #[v] w fun e w' => e = .returned (.tuple #[.agg (ancC (parseA b).1), .int .i64 ((parseA b).2 : Nat)]) ∧ Below w.heap.size w w' := by
  have hv0 := hv
  obtain ⟨a0, cap, rfl, hcap, hr⟩ := hv
  obtain ⟨bb, oo, rfl, hbb, hc⟩ := hr (by intro e; rw [e] at hl; simp at hl)
  rw [hl] at hv0 hcap hc ⊢
  have hpn := fun h => parseA_no b hl h
  have hpy := fun h1 h2 => parseA_yes b hl h1 h2
  obtain ⟨Z, hZ⟩ : ∃ Z, Z = ancC zanc := ⟨_, rfl⟩
  have zs : Z.size = 71 := by rw [hZ]; exact ancC_size zanc_wf
  have zo : Z.all (·.oneCell') = true := by rw [hZ]; exact ancC_one _
  have hx : ∀ w, (zeroValue 26).run Try.prog w = .ok (.agg Z) w := by rw [hZ]; exact zeroAncR
  have bn : ∀ w, (Instr.build 26 #[]).run Try.prog w = .ok (.agg Z) w := by rw [hZ]; exact buildR0
  have hal : ∀ w : World, (Instr.alloc 26 true (.tuple #[])).run Try.prog w = .ok (.pointer (some ⟨w.heap.size, 0, none⟩)) (w.alloc (.cells Z 26)) := by rw [hZ]; exact allocAncR
  have az := at_new w Z 26
  have bz : Below w.heap.size w (w.alloc (.cells Z 26)) := (Below.refl _ _).alloc (Nat.le_refl _) _
  obtain ⟨w1, hw1⟩ : ∃ w1, w1 = w.alloc (.cells Z 26) := ⟨_, rfl⟩
  rw [← hw1] at az bz
  have hs1 := hv0.below bz
  have hc1 : ∀ i, i < 128 → w1.cell? ⟨bb, oo + i, none⟩ = some (.int .u8 ((b.getD i 0).toNat : Int)) := fun i hi => (bz.cell (p := ⟨bb, oo + i, none⟩) hbb).trans (hc i hi)
  have hb1 : bb < w1.heap.size := Nat.lt_of_lt_of_le hbb bz.size
  have pc : ∀ k m, k ≤ m → m ≤ 128 → Sl w1 (.slice (pieceA (some ⟨bb, oo, none⟩) cap k) (m - k) (cap - k)) ((b.drop k).take (m - k)) := fun k m h1 h2 => by
    have h := hs1
    rw [← hl] at h
    exact sl_piece h h1 (by omega)
  have lq : ∀ k m q, q = 256 ^ (m - k) → leN ((b.drop k).take (m - k)) < q := fun k m q hq => leN_take_lt b k (m - k) q hq
  have hnum : ∀ k m (wx : World), k ≤ m → m ≤ 128 → m - k ≤ 8 → Below w1.heap.size w1 wx → Calls Try.prog 33 #[.slice (pieceA (some ⟨bb, oo, none⟩) cap k) (m - k) (cap - k)] wx fun e w' => e = .returned (.int .u64 ((leN ((b.drop k).take (m - k)) : Nat) : Int)) ∧ wx = w' :=
    fun k m wx h1 h2 h3 hb => rnum_any _ _ wx ((pc k m h1 h2).below hb) (by rw [List.length_take]; omega)
  obtain ⟨x0, hx0⟩ : ∃ x, x = (b.getD 0 0).toNat := ⟨_, rfl⟩
  obtain ⟨x7, hx7⟩ : ∃ x, x = (b.getD 7 0).toNat := ⟨_, rfl⟩
  obtain ⟨x40, hx40⟩ : ∃ x, x = (b.getD 40 0).toNat := ⟨_, rfl⟩
  obtain ⟨n1, hn1⟩ : ∃ x, x = leN ((b.drop 1).take (3 - 1)) := ⟨_, rfl⟩
  obtain ⟨n3, hn3⟩ : ∃ x, x = leN ((b.drop 3).take (7 - 3)) := ⟨_, rfl⟩
  obtain ⟨n41, hn41⟩ : ∃ x, x = leN ((b.drop 41).take (45 - 41)) := ⟨_, rfl⟩
  obtain ⟨n77, hn77⟩ : ∃ x, x = leN ((b.drop 77).take (85 - 77)) := ⟨_, rfl⟩
  have hd0 := ancJ_zero b hl
  rw [← hx0, ← hx7, ← hx40, ← hn1, ← hn3, ← hn41, ← hn77] at hd0
  obtain ⟨D, hD⟩ : ∃ D, D = ancC (ancJ b 0) := ⟨_, rfl⟩
  have hbd := fun wx => buildR7 x0 n1 x7 x40 n3 n41 n77 wx
  rw [← hd0, ← hD] at hbd
  have ds : D.size = 71 := by rw [hD]; exact ancC_size (ancJ_wf b hl 0 (by omega))
  have dO : D.all (·.oneCell') = true := by rw [hD]; exact ancC_one _
  have q0 : x0 < 256 := by rw [hx0]; exact (b.getD 0 0).isLt
  have q7 : x7 < 256 := by rw [hx7]; exact (b.getD 7 0).isLt
  have q40 : x40 < 256 := by rw [hx40]; exact (b.getD 40 0).isLt
  have q1 : n1 < 65536 := by rw [hn1]; exact lq 1 3 _ (by decide)
  have q3 : n3 < 4294967296 := by rw [hn3]; exact lq 3 7 _ (by decide)
  have q41 : n41 < 4294967296 := by rw [hn41]; exact lq 41 45 _ (by decide)
  have c0 := hc1 0 (by decide)
  have c7 := hc1 7 (by decide)
  have c40 := hc1 40 (by decide)
  rw [← hx0] at c0; rw [← hx7] at c7; rw [← hx40] at c40
  have k1 := fun (wx : World) => hnum 1 3 wx (by decide) (by decide) (by decide)
  have k3 := fun (wx : World) => hnum 3 7 wx (by decide) (by decide) (by decide)
  have k41 := fun (wx : World) => hnum 41 45 wx (by decide) (by decide) (by decide)
  have k77 := fun (wx : World) => hnum 77 85 wx (by decide) (by decide) (by decide)
  rw [← hn1] at k1; rw [← hn3] at k3; rw [← hn41] at k41; rw [← hn77] at k77
  have PN := Lib.hid hpn; have PY := Lib.hid hpy; have BN := Lib.hid bn; have ZS := Lib.hid zs; have ZO := Lib.hid zo; have AL := Lib.hid hal; have AZ := Lib.hid az; have BZ := Lib.hid bz; have S1 := Lib.hid hs1; have C1 := Lib.hid hc1; have BB := Lib.hid hb1
  have HD := Lib.hid hD; have BLD := Lib.hid hbd; have DS := Lib.hid ds; have DO := Lib.hid dO; have C0 := Lib.hid c0; have C7 := Lib.hid c7; have C40 := Lib.hid c40; have K1 := Lib.hid k1; have K3 := Lib.hid k3; have K41 := Lib.hid k41; have K77 := Lib.hid k77; have HZ := Lib.hid hZ; have HLB := Lib.hid hl
  clear hpn hpy bn zs zo hal az bz hs1 hc1 hb1 hD hbd ds dO c0 c7 c40 k1 k3 k41 k77 hZ hl hv0 hc hbb hr pc lq hnum hd0 hx0 hx7 hx40 hn1 hn3 hn41 hn77
  go_enter Try.func15, Try.ntmps15
  go_upto_region 1 with fail
  clear hx
  rw [← hw1]
  clear hw1
  have g1 : ¬ (128 : Int) < 128 := by decide
  go_wp2_with fail
  go_cut [4] (fun x wx => ∃ g, .pointer (some ⟨g, 0, none⟩) = x ∧ w1.heap.size ≤ g ∧ At wx g D 26 ∧ Below w1.heap.size w1 wx)
  case first =>
    have B0 : Hid (Below w1.heap.size w1 w1.drew) := (Below.refl _ _).drew
    refine wp_region_plan_in (fun x => Below w1.heap.size w1 x) (.take 0 (.take 1 (.take 2 (.take 3 (.take 4 (.take 5 (.take 8 (.take 9 (.take 12 (.take 13 (.take 14 (.take 15 (.take 16 (.take 17 (.take 18 (.take 19 (.take 20 (.take 21 (.take 24 (.take 25 (.two 6 28 (.take 7 (.two 10 28 (.take 11 (.two 22 28 (.take 23 (.two 26 28 (.take 27 (.sole 28 (.sole 29 .done))) (.sole 26 (.take 27 (.sole 29 .done))))) (.sole 22 (.take 23 (.sole 26 (.take 27 (.sole 29 .done))))))) (.sole 10 (.take 11 (.sole 22 (.take 23 (.sole 26 (.take 27 (.sole 29 .done))))))))) (.sole 6 (.take 7 (.sole 10 (.take 11 (.sole 22 (.take 23 (.sole 26 (.take 27 (.sole 29 .done)))))))))))))))))))))))))))))) (by kernel_rfl) (by kernel_rfl) (by kernel_rfl) B0.out ?_
    (first | (refine plan_move _ _ (by rfl) (by rfl) (.inl (by rfl)) (by first | (with_reducible exact Mem.ev_const _ _) | (with_reducible exact Mem.ev_zero _ _ _) | (with_reducible (apply Eq.trans (Mem.ev_tmp _ _ _)); simp only [List.getD_cons_succ, List.getD_cons_zero] <;> rfl)) ?_) | (refine plan_move _ _ (by rfl) (by rfl) (.inr (by rfl)) (by first | (with_reducible exact Mem.ev_const _ _) | (with_reducible exact Mem.ev_zero _ _ _) | (with_reducible (apply Eq.trans (Mem.ev_tmp _ _ _)); simp only [List.getD_cons_succ, List.getD_cons_zero] <;> rfl)) ?_) | (refine plan_pick_t _ _ _ _ (by rfl) (by rfl) (by rfl) (by first | (with_reducible exact Mem.ev_const _ _) | (with_reducible exact Mem.ev_zero _ _ _) | (with_reducible (apply Eq.trans (Mem.ev_tmp _ _ _)); simp only [List.getD_cons_succ, List.getD_cons_zero] <;> rfl)) (by first | (with_reducible exact Mem.ev_const _ _) | (with_reducible exact Mem.ev_zero _ _ _) | (with_reducible (apply Eq.trans (Mem.ev_tmp _ _ _)); simp only [List.getD_cons_succ, List.getD_cons_zero] <;> rfl)) ?_) | (refine plan_pick_f _ _ _ _ (by rfl) (by rfl) (by rfl) (by first | (with_reducible exact Mem.ev_const _ _) | (with_reducible exact Mem.ev_zero _ _ _) | (with_reducible (apply Eq.trans (Mem.ev_tmp _ _ _)); simp only [List.getD_cons_succ, List.getD_cons_zero] <;> rfl)) (by first | (with_reducible exact Mem.ev_const _ _) | (with_reducible exact Mem.ev_zero _ _ _) | (with_reducible (apply Eq.trans (Mem.ev_tmp _ _ _)); simp only [List.getD_cons_succ, List.getD_cons_zero] <;> rfl)) ?_))
    (simp only [Act.put, List.setIfInBounds_toArray, List.set_cons_zero, List.set_cons_succ])
    refine plan_index 27 5 _ _ bb oo 128 cap 0 (by rfl) (by rfl) (by rfl) (by first | (with_reducible exact Mem.ev_const _ _) | (with_reducible exact Mem.ev_zero _ _ _) | (with_reducible (apply Eq.trans (Mem.ev_tmp _ _ _)); simp only [List.getD_cons_succ, List.getD_cons_zero] <;> rfl)) (by rfl) (by decide) Try.underlying27 infoB ?_
    (simp only [Act.put, List.setIfInBounds_toArray, List.set_cons_zero, List.set_cons_succ])
    refine plan_cell 5 _ _ (.int .u8 (x0 : Int)) _ (by rfl) (by rfl) (by rfl) (by first | (with_reducible exact Mem.ev_const _ _) | (with_reducible exact Mem.ev_zero _ _ _) | (with_reducible (apply Eq.trans (Mem.ev_tmp _ _ _)); simp only [List.getD_cons_succ, List.getD_cons_zero] <;> rfl)) (fun w' hw' => (hw'.cell (p := ⟨bb, oo + 0, none⟩) BB.out).trans C0.out) Try.underlying5 (by rfl) ?_
    (simp only [Act.put, List.setIfInBounds_toArray, List.set_cons_zero, List.set_cons_succ])
    refine plan_conv _ _ _ _ (.int .i64 (x0 : Int)) (by rfl) (by rfl) (by rfl) (by first | (with_reducible exact Mem.ev_const _ _) | (with_reducible exact Mem.ev_zero _ _ _) | (with_reducible (apply Eq.trans (Mem.ev_tmp _ _ _)); simp only [List.getD_cons_succ, List.getD_cons_zero] <;> rfl)) (fun wx => conv_bi x0 (by omega) wx) ?_
    (simp only [Act.put, List.setIfInBounds_toArray, List.set_cons_zero, List.set_cons_succ])
    (first | (refine plan_move _ _ (by rfl) (by rfl) (.inl (by rfl)) (by first | (with_reducible exact Mem.ev_const _ _) | (with_reducible exact Mem.ev_zero _ _ _) | (with_reducible (apply Eq.trans (Mem.ev_tmp _ _ _)); simp only [List.getD_cons_succ, List.getD_cons_zero] <;> rfl)) ?_) | (refine plan_move _ _ (by rfl) (by rfl) (.inr (by rfl)) (by first | (with_reducible exact Mem.ev_const _ _) | (with_reducible exact Mem.ev_zero _ _ _) | (with_reducible (apply Eq.trans (Mem.ev_tmp _ _ _)); simp only [List.getD_cons_succ, List.getD_cons_zero] <;> rfl)) ?_) | (refine plan_pick_t _ _ _ _ (by rfl) (by rfl) (by rfl) (by first | (with_reducible exact Mem.ev_const _ _) | (with_reducible exact Mem.ev_zero _ _ _) | (with_reducible (apply Eq.trans (Mem.ev_tmp _ _ _)); simp only [List.getD_cons_succ, List.getD_cons_zero] <;> rfl)) (by first | (with_reducible exact Mem.ev_const _ _) | (with_reducible exact Mem.ev_zero _ _ _) | (with_reducible (apply Eq.trans (Mem.ev_tmp _ _ _)); simp only [List.getD_cons_succ, List.getD_cons_zero] <;> rfl)) ?_) | (refine plan_pick_f _ _ _ _ (by rfl) (by rfl) (by rfl) (by first | (with_reducible exact Mem.ev_const _ _) | (with_reducible exact Mem.ev_zero _ _ _) | (with_reducible (apply Eq.trans (Mem.ev_tmp _ _ _)); simp only [List.getD_cons_succ, List.getD_cons_zero] <;> rfl)) (by first | (with_reducible exact Mem.ev_const _ _) | (with_reducible exact Mem.ev_zero _ _ _) | (with_reducible (apply Eq.trans (Mem.ev_tmp _ _ _)); simp only [List.getD_cons_succ, List.getD_cons_zero] <;> rfl)) ?_))
    (simp only [Act.put, List.setIfInBounds_toArray, List.set_cons_zero, List.set_cons_succ])
    refine plan_piece _ _ _ _ (by rfl) (by rfl) (by rfl) Try.underlying27 (some ⟨bb, oo, none⟩) 128 cap 1 3 (by first | (with_reducible exact Mem.ev_const _ _) | (with_reducible exact Mem.ev_zero _ _ _) | (with_reducible (apply Eq.trans (Mem.ev_tmp _ _ _)); simp only [List.getD_cons_succ, List.getD_cons_zero] <;> rfl)) (by rfl) (by rfl) (by decide) (by decide) hcap ?_
    (simp only [Act.put, List.setIfInBounds_toArray, List.set_cons_zero, List.set_cons_succ])
    (first | (refine plan_move _ _ (by rfl) (by rfl) (.inl (by rfl)) (by first | (with_reducible exact Mem.ev_const _ _) | (with_reducible exact Mem.ev_zero _ _ _) | (with_reducible (apply Eq.trans (Mem.ev_tmp _ _ _)); simp only [List.getD_cons_succ, List.getD_cons_zero] <;> rfl)) ?_) | (refine plan_move _ _ (by rfl) (by rfl) (.inr (by rfl)) (by first | (with_reducible exact Mem.ev_const _ _) | (with_reducible exact Mem.ev_zero _ _ _) | (with_reducible (apply Eq.trans (Mem.ev_tmp _ _ _)); simp only [List.getD_cons_succ, List.getD_cons_zero] <;> rfl)) ?_) | (refine plan_pick_t _ _ _ _ (by rfl) (by rfl) (by rfl) (by first | (with_reducible exact Mem.ev_const _ _) | (with_reducible exact Mem.ev_zero _ _ _) | (with_reducible (apply Eq.trans (Mem.ev_tmp _ _ _)); simp only [List.getD_cons_succ, List.getD_cons_zero] <;> rfl)) (by first | (with_reducible exact Mem.ev_const _ _) | (with_reducible exact Mem.ev_zero _ _ _) | (with_reducible (apply Eq.trans (Mem.ev_tmp _ _ _)); simp only [List.getD_cons_succ, List.getD_cons_zero] <;> rfl)) ?_) | (refine plan_pick_f _ _ _ _ (by rfl) (by rfl) (by rfl) (by first | (with_reducible exact Mem.ev_const _ _) | (with_reducible exact Mem.ev_zero _ _ _) | (with_reducible (apply Eq.trans (Mem.ev_tmp _ _ _)); simp only [List.getD_cons_succ, List.getD_cons_zero] <;> rfl)) (by first | (with_reducible exact Mem.ev_const _ _) | (with_reducible exact Mem.ev_zero _ _ _) | (with_reducible (apply Eq.trans (Mem.ev_tmp _ _ _)); simp only [List.getD_cons_succ, List.getD_cons_zero] <;> rfl)) ?_))
    (simp only [Act.put, List.setIfInBounds_toArray, List.set_cons_zero, List.set_cons_succ])
    refine plan_piece _ _ _ _ (by rfl) (by rfl) (by rfl) Try.underlying27 (some ⟨bb, oo, none⟩) 128 cap 3 7 (by first | (with_reducible exact Mem.ev_const _ _) | (with_reducible exact Mem.ev_zero _ _ _) | (with_reducible (apply Eq.trans (Mem.ev_tmp _ _ _)); simp only [List.getD_cons_succ, List.getD_cons_zero] <;> rfl)) (by rfl) (by rfl) (by decide) (by decide) hcap ?_
    (simp only [Act.put, List.setIfInBounds_toArray, List.set_cons_zero, List.set_cons_succ])
    (first | (refine plan_move _ _ (by rfl) (by rfl) (.inl (by rfl)) (by first | (with_reducible exact Mem.ev_const _ _) | (with_reducible exact Mem.ev_zero _ _ _) | (with_reducible (apply Eq.trans (Mem.ev_tmp _ _ _)); simp only [List.getD_cons_succ, List.getD_cons_zero] <;> rfl)) ?_) | (refine plan_move _ _ (by rfl) (by rfl) (.inr (by rfl)) (by first | (with_reducible exact Mem.ev_const _ _) | (with_reducible exact Mem.ev_zero _ _ _) | (with_reducible (apply Eq.trans (Mem.ev_tmp _ _ _)); simp only [List.getD_cons_succ, List.getD_cons_zero] <;> rfl)) ?_) | (refine plan_pick_t _ _ _ _ (by rfl) (by rfl) (by rfl) (by first | (with_reducible exact Mem.ev_const _ _) | (with_reducible exact Mem.ev_zero _ _ _) | (with_reducible (apply Eq.trans (Mem.ev_tmp _ _ _)); simp only [List.getD_cons_succ, List.getD_cons_zero] <;> rfl)) (by first | (with_reducible exact Mem.ev_const _ _) | (with_reducible exact Mem.ev_zero _ _ _) | (with_reducible (apply Eq.trans (Mem.ev_tmp _ _ _)); simp only [List.getD_cons_succ, List.getD_cons_zero] <;> rfl)) ?_) | (refine plan_pick_f _ _ _ _ (by rfl) (by rfl) (by rfl) (by first | (with_reducible exact Mem.ev_const _ _) | (with_reducible exact Mem.ev_zero _ _ _) | (with_reducible (apply Eq.trans (Mem.ev_tmp _ _ _)); simp only [List.getD_cons_succ, List.getD_cons_zero] <;> rfl)) (by first | (with_reducible exact Mem.ev_const _ _) | (with_reducible exact Mem.ev_zero _ _ _) | (with_reducible (apply Eq.trans (Mem.ev_tmp _ _ _)); simp only [List.getD_cons_succ, List.getD_cons_zero] <;> rfl)) ?_))
    (simp only [Act.put, List.setIfInBounds_toArray, List.set_cons_zero, List.set_cons_succ])
    refine plan_index 27 5 _ _ bb oo 128 cap 7 (by rfl) (by rfl) (by rfl) (by first | (with_reducible exact Mem.ev_const _ _) | (with_reducible exact Mem.ev_zero _ _ _) | (with_reducible (apply Eq.trans (Mem.ev_tmp _ _ _)); simp only [List.getD_cons_succ, List.getD_cons_zero] <;> rfl)) (by rfl) (by decide) Try.underlying27 infoB ?_
    (simp only [Act.put, List.setIfInBounds_toArray, List.set_cons_zero, List.set_cons_succ])
    refine plan_cell 5 _ _ (.int .u8 (x7 : Int)) _ (by rfl) (by rfl) (by rfl) (by first | (with_reducible exact Mem.ev_const _ _) | (with_reducible exact Mem.ev_zero _ _ _) | (with_reducible (apply Eq.trans (Mem.ev_tmp _ _ _)); simp only [List.getD_cons_succ, List.getD_cons_zero] <;> rfl)) (fun w' hw' => (hw'.cell (p := ⟨bb, oo + 7, none⟩) BB.out).trans C7.out) Try.underlying5 (by rfl) ?_
    (simp only [Act.put, List.setIfInBounds_toArray, List.set_cons_zero, List.set_cons_succ])
    refine plan_conv _ _ _ _ (.int .i64 (x7 : Int)) (by rfl) (by rfl) (by rfl) (by first | (with_reducible exact Mem.ev_const _ _) | (with_reducible exact Mem.ev_zero _ _ _) | (with_reducible (apply Eq.trans (Mem.ev_tmp _ _ _)); simp only [List.getD_cons_succ, List.getD_cons_zero] <;> rfl)) (fun wx => conv_bi x7 (by omega) wx) ?_
    (simp only [Act.put, List.setIfInBounds_toArray, List.set_cons_zero, List.set_cons_succ])
    (first | (refine plan_move _ _ (by rfl) (by rfl) (.inl (by rfl)) (by first | (with_reducible exact Mem.ev_const _ _) | (with_reducible exact Mem.ev_zero _ _ _) | (with_reducible (apply Eq.trans (Mem.ev_tmp _ _ _)); simp only [List.getD_cons_succ, List.getD_cons_zero] <;> rfl)) ?_) | (refine plan_move _ _ (by rfl) (by rfl) (.inr (by rfl)) (by first | (with_reducible exact Mem.ev_const _ _) | (with_reducible exact Mem.ev_zero _ _ _) | (with_reducible (apply Eq.trans (Mem.ev_tmp _ _ _)); simp only [List.getD_cons_succ, List.getD_cons_zero] <;> rfl)) ?_) | (refine plan_pick_t _ _ _ _ (by rfl) (by rfl) (by rfl) (by first | (with_reducible exact Mem.ev_const _ _) | (with_reducible exact Mem.ev_zero _ _ _) | (with_reducible (apply Eq.trans (Mem.ev_tmp _ _ _)); simp only [List.getD_cons_succ, List.getD_cons_zero] <;> rfl)) (by first | (with_reducible exact Mem.ev_const _ _) | (with_reducible exact Mem.ev_zero _ _ _) | (with_reducible (apply Eq.trans (Mem.ev_tmp _ _ _)); simp only [List.getD_cons_succ, List.getD_cons_zero] <;> rfl)) ?_) | (refine plan_pick_f _ _ _ _ (by rfl) (by rfl) (by rfl) (by first | (with_reducible exact Mem.ev_const _ _) | (with_reducible exact Mem.ev_zero _ _ _) | (with_reducible (apply Eq.trans (Mem.ev_tmp _ _ _)); simp only [List.getD_cons_succ, List.getD_cons_zero] <;> rfl)) (by first | (with_reducible exact Mem.ev_const _ _) | (with_reducible exact Mem.ev_zero _ _ _) | (with_reducible (apply Eq.trans (Mem.ev_tmp _ _ _)); simp only [List.getD_cons_succ, List.getD_cons_zero] <;> rfl)) ?_))
    (simp only [Act.put, List.setIfInBounds_toArray, List.set_cons_zero, List.set_cons_succ])
    refine plan_index 27 5 _ _ bb oo 128 cap 40 (by rfl) (by rfl) (by rfl) (by first | (with_reducible exact Mem.ev_const _ _) | (with_reducible exact Mem.ev_zero _ _ _) | (with_reducible (apply Eq.trans (Mem.ev_tmp _ _ _)); simp only [List.getD_cons_succ, List.getD_cons_zero] <;> rfl)) (by rfl) (by decide) Try.underlying27 infoB ?_
    (simp only [Act.put, List.setIfInBounds_toArray, List.set_cons_zero, List.set_cons_succ])
    refine plan_cell 5 _ _ (.int .u8 (x40 : Int)) _ (by rfl) (by rfl) (by rfl) (by first | (with_reducible exact Mem.ev_const _ _) | (with_reducible exact Mem.ev_zero _ _ _) | (with_reducible (apply Eq.trans (Mem.ev_tmp _ _ _)); simp only [List.getD_cons_succ, List.getD_cons_zero] <;> rfl)) (fun w' hw' => (hw'.cell (p := ⟨bb, oo + 40, none⟩) BB.out).trans C40.out) Try.underlying5 (by rfl) ?_
    (simp only [Act.put, List.setIfInBounds_toArray, List.set_cons_zero, List.set_cons_succ])
    refine plan_conv _ _ _ _ (.int .i64 (x40 : Int)) (by rfl) (by rfl) (by rfl) (by first | (with_reducible exact Mem.ev_const _ _) | (with_reducible exact Mem.ev_zero _ _ _) | (with_reducible (apply Eq.trans (Mem.ev_tmp _ _ _)); simp only [List.getD_cons_succ, List.getD_cons_zero] <;> rfl)) (fun wx => conv_bi x40 (by omega) wx) ?_
    (simp only [Act.put, List.setIfInBounds_toArray, List.set_cons_zero, List.set_cons_succ])
    (first | (refine plan_move _ _ (by rfl) (by rfl) (.inl (by rfl)) (by first | (with_reducible exact Mem.ev_const _ _) | (with_reducible exact Mem.ev_zero _ _ _) | (with_reducible (apply Eq.trans (Mem.ev_tmp _ _ _)); simp only [List.getD_cons_succ, List.getD_cons_zero] <;> rfl)) ?_) | (refine plan_move _ _ (by rfl) (by rfl) (.inr (by rfl)) (by first | (with_reducible exact Mem.ev_const _ _) | (with_reducible exact Mem.ev_zero _ _ _) | (with_reducible (apply Eq.trans (Mem.ev_tmp _ _ _)); simp only [List.getD_cons_succ, List.getD_cons_zero] <;> rfl)) ?_) | (refine plan_pick_t _ _ _ _ (by rfl) (by rfl) (by rfl) (by first | (with_reducible exact Mem.ev_const _ _) | (with_reducible exact Mem.ev_zero _ _ _) | (with_reducible (apply Eq.trans (Mem.ev_tmp _ _ _)); simp only [List.getD_cons_succ, List.getD_cons_zero] <;> rfl)) (by first | (with_reducible exact Mem.ev_const _ _) | (with_reducible exact Mem.ev_zero _ _ _) | (with_reducible (apply Eq.trans (Mem.ev_tmp _ _ _)); simp only [List.getD_cons_succ, List.getD_cons_zero] <;> rfl)) ?_) | (refine plan_pick_f _ _ _ _ (by rfl) (by rfl) (by rfl) (by first | (with_reducible exact Mem.ev_const _ _) | (with_reducible exact Mem.ev_zero _ _ _) | (with_reducible (apply Eq.trans (Mem.ev_tmp _ _ _)); simp only [List.getD_cons_succ, List.getD_cons_zero] <;> rfl)) (by first | (with_reducible exact Mem.ev_const _ _) | (with_reducible exact Mem.ev_zero _ _ _) | (with_reducible (apply Eq.trans (Mem.ev_tmp _ _ _)); simp only [List.getD_cons_succ, List.getD_cons_zero] <;> rfl)) ?_))
    (simp only [Act.put, List.setIfInBounds_toArray, List.set_cons_zero, List.set_cons_succ])
    refine plan_piece _ _ _ _ (by rfl) (by rfl) (by rfl) Try.underlying27 (some ⟨bb, oo, none⟩) 128 cap 41 45 (by first | (with_reducible exact Mem.ev_const _ _) | (with_reducible exact Mem.ev_zero _ _ _) | (with_reducible (apply Eq.trans (Mem.ev_tmp _ _ _)); simp only [List.getD_cons_succ, List.getD_cons_zero] <;> rfl)) (by rfl) (by rfl) (by decide) (by decide) hcap ?_
    (simp only [Act.put, List.setIfInBounds_toArray, List.set_cons_zero, List.set_cons_succ])
    (first | (refine plan_move _ _ (by rfl) (by rfl) (.inl (by rfl)) (by first | (with_reducible exact Mem.ev_const _ _) | (with_reducible exact Mem.ev_zero _ _ _) | (with_reducible (apply Eq.trans (Mem.ev_tmp _ _ _)); simp only [List.getD_cons_succ, List.getD_cons_zero] <;> rfl)) ?_) | (refine plan_move _ _ (by rfl) (by rfl) (.inr (by rfl)) (by first | (with_reducible exact Mem.ev_const _ _) | (with_reducible exact Mem.ev_zero _ _ _) | (with_reducible (apply Eq.trans (Mem.ev_tmp _ _ _)); simp only [List.getD_cons_succ, List.getD_cons_zero] <;> rfl)) ?_) | (refine plan_pick_t _ _ _ _ (by rfl) (by rfl) (by rfl) (by first | (with_reducible exact Mem.ev_const _ _) | (with_reducible exact Mem.ev_zero _ _ _) | (with_reducible (apply Eq.trans (Mem.ev_tmp _ _ _)); simp only [List.getD_cons_succ, List.getD_cons_zero] <;> rfl)) (by first | (with_reducible exact Mem.ev_const _ _) | (with_reducible exact Mem.ev_zero _ _ _) | (with_reducible (apply Eq.trans (Mem.ev_tmp _ _ _)); simp only [List.getD_cons_succ, List.getD_cons_zero] <;> rfl)) ?_) | (refine plan_pick_f _ _ _ _ (by rfl) (by rfl) (by rfl) (by first | (with_reducible exact Mem.ev_const _ _) | (with_reducible exact Mem.ev_zero _ _ _) | (with_reducible (apply Eq.trans (Mem.ev_tmp _ _ _)); simp only [List.getD_cons_succ, List.getD_cons_zero] <;> rfl)) (by first | (with_reducible exact Mem.ev_const _ _) | (with_reducible exact Mem.ev_zero _ _ _) | (with_reducible (apply Eq.trans (Mem.ev_tmp _ _ _)); simp only [List.getD_cons_succ, List.getD_cons_zero] <;> rfl)) ?_))
    (simp only [Act.put, List.setIfInBounds_toArray, List.set_cons_zero, List.set_cons_succ])
    refine plan_piece _ _ _ _ (by rfl) (by rfl) (by rfl) Try.underlying27 (some ⟨bb, oo, none⟩) 128 cap 77 85 (by first | (with_reducible exact Mem.ev_const _ _) | (with_reducible exact Mem.ev_zero _ _ _) | (with_reducible (apply Eq.trans (Mem.ev_tmp _ _ _)); simp only [List.getD_cons_succ, List.getD_cons_zero] <;> rfl)) (by rfl) (by rfl) (by decide) (by decide) hcap ?_
    (simp only [Act.put, List.setIfInBounds_toArray, List.set_cons_zero, List.set_cons_succ])
    refine plan_two ?_ ?_
    · refine plan_call 33 _ _ _ (by kernel_rfl) (by rfl) (by rfl) (by rfl) (by first | exact Mem.ev_none _ | (simp only [List.map_toArray, List.map_cons, List.map_nil, Mem.ev_tmp, List.getD_cons_succ, List.getD_cons_zero] <;> rfl)) ?_
      refine (K1.out _ B0.out).mono ?_
      rintro e w' ⟨rfl, rfl⟩
      refine ⟨_, rfl, B0.out, ?_⟩
      (simp only [Act.put, List.setIfInBounds_toArray, List.set_cons_zero, List.set_cons_succ])
      refine plan_conv _ _ _ _ (.int .i64 (n1 : Int)) (by rfl) (by rfl) (by rfl) (by first | (with_reducible exact Mem.ev_const _ _) | (with_reducible exact Mem.ev_zero _ _ _) | (with_reducible (apply Eq.trans (Mem.ev_tmp _ _ _)); simp only [List.getD_cons_succ, List.getD_cons_zero] <;> rfl)) (fun wx => conv_ui n1 (by omega) wx) ?_
      (simp only [Act.put, List.setIfInBounds_toArray, List.set_cons_zero, List.set_cons_succ])
      refine plan_two ?_ ?_
      · refine plan_call 33 _ _ _ (by kernel_rfl) (by rfl) (by rfl) (by rfl) (by first | exact Mem.ev_none _ | (simp only [List.map_toArray, List.map_cons, List.map_nil, Mem.ev_tmp, List.getD_cons_succ, List.getD_cons_zero] <;> rfl)) ?_
        refine (K3.out _ B0.out).mono ?_
        rintro e w' ⟨rfl, rfl⟩
        refine ⟨_, rfl, B0.out, ?_⟩
        (simp only [Act.put, List.setIfInBounds_toArray, List.set_cons_zero, List.set_cons_succ])
        refine plan_conv _ _ _ _ (.int .u32 (n3 : Int)) (by rfl) (by rfl) (by rfl) (by first | (with_reducible exact Mem.ev_const _ _) | (with_reducible exact Mem.ev_zero _ _ _) | (with_reducible (apply Eq.trans (Mem.ev_tmp _ _ _)); simp only [List.getD_cons_succ, List.getD_cons_zero] <;> rfl)) (fun wx => conv_u32 n3 (by omega) wx) ?_
        (simp only [Act.put, List.setIfInBounds_toArray, List.set_cons_zero, List.set_cons_succ])
        refine plan_two ?_ ?_
        · refine plan_call 33 _ _ _ (by kernel_rfl) (by rfl) (by rfl) (by rfl) (by first | exact Mem.ev_none _ | (simp only [List.map_toArray, List.map_cons, List.map_nil, Mem.ev_tmp, List.getD_cons_succ, List.getD_cons_zero] <;> rfl)) ?_
          refine (K41.out _ B0.out).mono ?_
          rintro e w' ⟨rfl, rfl⟩
          refine ⟨_, rfl, B0.out, ?_⟩
          (simp only [Act.put, List.setIfInBounds_toArray, List.set_cons_zero, List.set_cons_succ])
          refine plan_conv _ _ _ _ (.int .u32 (n41 : Int)) (by rfl) (by rfl) (by rfl) (by first | (with_reducible exact Mem.ev_const _ _) | (with_reducible exact Mem.ev_zero _ _ _) | (with_reducible (apply Eq.trans (Mem.ev_tmp _ _ _)); simp only [List.getD_cons_succ, List.getD_cons_zero] <;> rfl)) (fun wx => conv_u32 n41 (by omega) wx) ?_
          (simp only [Act.put, List.setIfInBounds_toArray, List.set_cons_zero, List.set_cons_succ])
          refine plan_two ?_ ?_
          · refine plan_call 33 _ _ _ (by kernel_rfl) (by rfl) (by rfl) (by rfl) (by first | exact Mem.ev_none _ | (simp only [List.map_toArray, List.map_cons, List.map_nil, Mem.ev_tmp, List.getD_cons_succ, List.getD_cons_zero] <;> rfl)) ?_
            refine (K77.out _ B0.out).mono ?_
            rintro e w' ⟨rfl, rfl⟩
            refine ⟨_, rfl, B0.out, ?_⟩
            (simp only [Act.put, List.setIfInBounds_toArray, List.set_cons_zero, List.set_cons_succ])
            refine plan_build _ _ #[(0, .int .i64 (x0 : Int)), (1, .int .i64 (n1 : Int)), (2, .int .u32 (n3 : Int)), (3, .int .i64 (x7 : Int)), (5, .int .i64 (x40 : Int)), (6, .int .u32 (n41 : Int)), (8, .int .u64 (n77 : Int))] (.agg D) (by rfl) (by rfl) (by rfl) (by simp only [List.map_toArray, List.map_cons, List.map_nil, Mem.ev_tmp, List.getD_cons_succ, List.getD_cons_zero]) BLD.out ?_
            (simp only [Act.put, List.setIfInBounds_toArray, List.set_cons_zero, List.set_cons_succ])
            refine plan_alloc_any _ Z (by rfl) (by rfl) (by rfl) AL.out (fun W' h => h _ _ B0.out B0.out.size) ?_
            intro g W2 hA2 hg2 _ hk2
            (simp only [Act.put, List.setIfInBounds_toArray, List.set_cons_zero, List.set_cons_succ])
            have B2 : Hid (Below w1.heap.size w1 W2) := hk2 _ _ B0.out B0.out.size
            have A2 := Lib.hid hA2; have G2 : Hid (w1.heap.size ≤ g) := Nat.le_trans B0.out.size hg2
            clear hA2 hg2 hk2
            refine plan_store_any _ _ _ g D Z 26 (by rfl) (by rfl) (by rfl) (by rfl) (by first | (with_reducible exact Mem.ev_const _ _) | (with_reducible exact Mem.ev_zero _ _ _) | (with_reducible (apply Eq.trans (Mem.ev_tmp _ _ _)); simp only [List.getD_cons_succ, List.getD_cons_zero] <;> rfl)) (by first | (with_reducible exact Mem.ev_const _ _) | (with_reducible exact Mem.ev_zero _ _ _) | (with_reducible (apply Eq.trans (Mem.ev_tmp _ _ _)); simp only [List.getD_cons_succ, List.getD_cons_zero] <;> rfl)) (by rw [DS.out]; exact infoAncR) A2.out (by rw [DS.out, ZS.out]) DO.out (fun W' h => h _ _ B2.out G2.out) ?_
            intro W3 hA3 _ hk3
            have A3 := Lib.hid hA3; have B3 : Hid (Below w1.heap.size w1 W3) := hk3 _ _ B2.out G2.out
            clear hA3 hk3
            refine plan_nil ?_
            go_wp2_with fail
            go_meet
            exact ⟨g, rfl, G2.out, A3.out, B3.out⟩
          · refine plan_alloc_any _ Z (by rfl) (by rfl) (by rfl) AL.out (fun W' h => h _ _ B0.out B0.out.size) ?_
            intro g W2 hA2 hg2 _ hk2
            (simp only [Act.put, List.setIfInBounds_toArray, List.set_cons_zero, List.set_cons_succ])
            have B2 : Hid (Below w1.heap.size w1 W2) := hk2 _ _ B0.out B0.out.size
            have A2 := Lib.hid hA2; have G2 : Hid (w1.heap.size ≤ g) := Nat.le_trans B0.out.size hg2
            clear hA2 hg2 hk2
            refine plan_call 33 _ _ _ (by kernel_rfl) (by rfl) (by rfl) (by rfl) (by first | exact Mem.ev_none _ | (simp only [List.map_toArray, List.map_cons, List.map_nil, Mem.ev_tmp, List.getD_cons_succ, List.getD_cons_zero] <;> rfl)) ?_
            refine (K77.out _ B2.out).mono ?_
            rintro e w' ⟨rfl, rfl⟩
            refine ⟨_, rfl, B2.out, ?_⟩
            (simp only [Act.put, List.setIfInBounds_toArray, List.set_cons_zero, List.set_cons_succ])
            refine plan_build _ _ #[(0, .int .i64 (x0 : Int)), (1, .int .i64 (n1 : Int)), (2, .int .u32 (n3 : Int)), (3, .int .i64 (x7 : Int)), (5, .int .i64 (x40 : Int)), (6, .int .u32 (n41 : Int)), (8, .int .u64 (n77 : Int))] (.agg D) (by rfl) (by rfl) (by rfl) (by simp only [List.map_toArray, List.map_cons, List.map_nil, Mem.ev_tmp, List.getD_cons_succ, List.getD_cons_zero]) BLD.out ?_
            (simp only [Act.put, List.setIfInBounds_toArray, List.set_cons_zero, List.set_cons_succ])
            refine plan_store_any _ _ _ g D Z 26 (by rfl) (by rfl) (by rfl) (by rfl) (by first | (with_reducible exact Mem.ev_const _ _) | (with_reducible exact Mem.ev_zero _ _ _) | (with_reducible (apply Eq.trans (Mem.ev_tmp _ _ _)); simp only [List.getD_cons_succ, List.getD_cons_zero] <;> rfl)) (by first | (with_reducible exact Mem.ev_const _ _) | (with_reducible exact Mem.ev_zero _ _ _) | (with_reducible (apply Eq.trans (Mem.ev_tmp _ _ _)); simp only [List.getD_cons_succ, List.getD_cons_zero] <;> rfl)) (by rw [DS.out]; exact infoAncR) A2.out (by rw [DS.out, ZS.out]) DO.out (fun W' h => h _ _ B2.out G2.out) ?_
            intro W3 hA3 _ hk3
            have A3 := Lib.hid hA3; have B3 : Hid (Below w1.heap.size w1 W3) := hk3 _ _ B2.out G2.out
            clear hA3 hk3
            refine plan_nil ?_
            go_wp2_with fail
            go_meet
            exact ⟨g, rfl, G2.out, A3.out, B3.out⟩
        · refine plan_alloc_any _ Z (by rfl) (by rfl) (by rfl) AL.out (fun W' h => h _ _ B0.out B0.out.size) ?_
          intro g W2 hA2 hg2 _ hk2
          (simp only [Act.put, List.setIfInBounds_toArray, List.set_cons_zero, List.set_cons_succ])
          have B2 : Hid (Below w1.heap.size w1 W2) := hk2 _ _ B0.out B0.out.size
          have A2 := Lib.hid hA2; have G2 : Hid (w1.heap.size ≤ g) := Nat.le_trans B0.out.size hg2
          clear hA2 hg2 hk2
          refine plan_call 33 _ _ _ (by kernel_rfl) (by rfl) (by rfl) (by rfl) (by first | exact Mem.ev_none _ | (simp only [List.map_toArray, List.map_cons, List.map_nil, Mem.ev_tmp, List.getD_cons_succ, List.getD_cons_zero] <;> rfl)) ?_
          refine (K41.out _ B2.out).mono ?_
          rintro e w' ⟨rfl, rfl⟩
          refine ⟨_, rfl, B2.out, ?_⟩
          (simp only [Act.put, List.setIfInBounds_toArray, List.set_cons_zero, List.set_cons_succ])
          refine plan_conv _ _ _ _ (.int .u32 (n41 : Int)) (by rfl) (by rfl) (by rfl) (by first | (with_reducible exact Mem.ev_const _ _) | (with_reducible exact Mem.ev_zero _ _ _) | (with_reducible (apply Eq.trans (Mem.ev_tmp _ _ _)); simp only [List.getD_cons_succ, List.getD_cons_zero] <;> rfl)) (fun wx => conv_u32 n41 (by omega) wx) ?_
          (simp only [Act.put, List.setIfInBounds_toArray, List.set_cons_zero, List.set_cons_succ])
          refine plan_call 33 _ _ _ (by kernel_rfl) (by rfl) (by rfl) (by rfl) (by first | exact Mem.ev_none _ | (simp only [List.map_toArray, List.map_cons, List.map_nil, Mem.ev_tmp, List.getD_cons_succ, List.getD_cons_zero] <;> rfl)) ?_
          refine (K77.out _ B2.out).mono ?_
          rintro e w' ⟨rfl, rfl⟩
          refine ⟨_, rfl, B2.out, ?_⟩
          (simp only [Act.put, List.setIfInBounds_toArray, List.set_cons_zero, List.set_cons_succ])
          refine plan_build _ _ #[(0, .int .i64 (x0 : Int)), (1, .int .i64 (n1 : Int)), (2, .int .u32 (n3 : Int)), (3, .int .i64 (x7 : Int)), (5, .int .i64 (x40 : Int)), (6, .int .u32 (n41 : Int)), (8, .int .u64 (n77 : Int))] (.agg D) (by rfl) (by rfl) (by rfl) (by simp only [List.map_toArray, List.map_cons, List.map_nil, Mem.ev_tmp, List.getD_cons_succ, List.getD_cons_zero]) BLD.out ?_
          (simp only [Act.put, List.setIfInBounds_toArray, List.set_cons_zero, List.set_cons_succ])
          refine plan_store_any _ _ _ g D Z 26 (by rfl) (by rfl) (by rfl) (by rfl) (by first | (with_reducible exact Mem.ev_const _ _) | (with_reducible exact Mem.ev_zero _ _ _) | (with_reducible (apply Eq.trans (Mem.ev_tmp _ _ _)); simp only [List.getD_cons_succ, List.getD_cons_zero] <;> rfl)) (by first | (with_reducible exact Mem.ev_const _ _) | (with_reducible exact Mem.ev_zero _ _ _) | (with_reducible (apply Eq.trans (Mem.ev_tmp _ _ _)); simp only [List.getD_cons_succ, List.getD_cons_zero] <;> rfl)) (by rw [DS.out]; exact infoAncR) A2.out (by rw [DS.out, ZS.out]) DO.out (fun W' h => h _ _ B2.out G2.out) ?_
          intro W3 hA3 _ hk3
          have A3 := Lib.hid hA3; have B3 : Hid (Below w1.heap.size w1 W3) := hk3 _ _ B2.out G2.out
          clear hA3 hk3
          refine plan_nil ?_
          go_wp2_with fail
          go_meet
          exact ⟨g, rfl, G2.out, A3.out, B3.out⟩
      · refine plan_alloc_any _ Z (by rfl) (by rfl) (by rfl) AL.out (fun W' h => h _ _ B0.out B0.out.size) ?_
        intro g W2 hA2 hg2 _ hk2
        (simp only [Act.put, List.setIfInBounds_toArray, List.set_cons_zero, List.set_cons_succ])
        have B2 : Hid (Below w1.heap.size w1 W2) := hk2 _ _ B0.out B0.out.size
        have A2 := Lib.hid hA2; have G2 : Hid (w1.heap.size ≤ g) := Nat.le_trans B0.out.size hg2
        clear hA2 hg2 hk2
        refine plan_call 33 _ _ _ (by kernel_rfl) (by rfl) (by rfl) (by rfl) (by first | exact Mem.ev_none _ | (simp only [List.map_toArray, List.map_cons, List.map_nil, Mem.ev_tmp, List.getD_cons_succ, List.getD_cons_zero] <;> rfl)) ?_
        refine (K3.out _ B2.out).mono ?_
        rintro e w' ⟨rfl, rfl⟩
        refine ⟨_, rfl, B2.out, ?_⟩
        (simp only [Act.put, List.setIfInBounds_toArray, List.set_cons_zero, List.set_cons_succ])
        refine plan_conv _ _ _ _ (.int .u32 (n3 : Int)) (by rfl) (by rfl) (by rfl) (by first | (with_reducible exact Mem.ev_const _ _) | (with_reducible exact Mem.ev_zero _ _ _) | (with_reducible (apply Eq.trans (Mem.ev_tmp _ _ _)); simp only [List.getD_cons_succ, List.getD_cons_zero] <;> rfl)) (fun wx => conv_u32 n3 (by omega) wx) ?_
        (simp only [Act.put, List.setIfInBounds_toArray, List.set_cons_zero, List.set_cons_succ])
        refine plan_call 33 _ _ _ (by kernel_rfl) (by rfl) (by rfl) (by rfl) (by first | exact Mem.ev_none _ | (simp only [List.map_toArray, List.map_cons, List.map_nil, Mem.ev_tmp, List.getD_cons_succ, List.getD_cons_zero] <;> rfl)) ?_
        refine (K41.out _ B2.out).mono ?_
        rintro e w' ⟨rfl, rfl⟩
        refine ⟨_, rfl, B2.out, ?_⟩
        (simp only [Act.put, List.setIfInBounds_toArray, List.set_cons_zero, List.set_cons_succ])
        refine plan_conv _ _ _ _ (.int .u32 (n41 : Int)) (by rfl) (by rfl) (by rfl) (by first | (with_reducible exact Mem.ev_const _ _) | (with_reducible exact Mem.ev_zero _ _ _) | (with_reducible (apply Eq.trans (Mem.ev_tmp _ _ _)); simp only [List.getD_cons_succ, List.getD_cons_zero] <;> rfl)) (fun wx => conv_u32 n41 (by omega) wx) ?_
        (simp only [Act.put, List.setIfInBounds_toArray, List.set_cons_zero, List.set_cons_succ])
        refine plan_call 33 _ _ _ (by kernel_rfl) (by rfl) (by rfl) (by rfl) (by first | exact Mem.ev_none _ | (simp only [List.map_toArray, List.map_cons, List.map_nil, Mem.ev_tmp, List.getD_cons_succ, List.getD_cons_zero] <;> rfl)) ?_
        refine (K77.out _ B2.out).mono ?_
        rintro e w' ⟨rfl, rfl⟩
        refine ⟨_, rfl, B2.out, ?_⟩
        (simp only [Act.put, List.setIfInBounds_toArray, List.set_cons_zero, List.set_cons_succ])
        refine plan_build _ _ #[(0, .int .i64 (x0 : Int)), (1, .int .i64 (n1 : Int)), (2, .int .u32 (n3 : Int)), (3, .int .i64 (x7 : Int)), (5, .int .i64 (x40 : Int)), (6, .int .u32 (n41 : Int)), (8, .int .u64 (n77 : Int))] (.agg D) (by rfl) (by rfl) (by rfl) (by simp only [List.map_toArray, List.map_cons, List.map_nil, Mem.ev_tmp, List.getD_cons_succ, List.getD_cons_zero]) BLD.out ?_
        (simp only [Act.put, List.setIfInBounds_toArray, List.set_cons_zero, List.set_cons_succ])
        refine plan_store_any _ _ _ g D Z 26 (by rfl) (by rfl) (by rfl) (by rfl) (by first | (with_reducible exact Mem.ev_const _ _) | (with_reducible exact Mem.ev_zero _ _ _) | (with_reducible (apply Eq.trans (Mem.ev_tmp _ _ _)); simp only [List.getD_cons_succ, List.getD_cons_zero] <;> rfl)) (by first | (with_reducible exact Mem.ev_const _ _) | (with_reducible exact Mem.ev_zero _ _ _) | (with_reducible (apply Eq.trans (Mem.ev_tmp _ _ _)); simp only [List.getD_cons_succ, List.getD_cons_zero] <;> rfl)) (by rw [DS.out]; exact infoAncR) A2.out (by rw [DS.out, ZS.out]) DO.out (fun W' h => h _ _ B2.out G2.out) ?_
        intro W3 hA3 _ hk3
        have A3 := Lib.hid hA3; have B3 : Hid (Below w1.heap.size w1 W3) := hk3 _ _ B2.out G2.out
        clear hA3 hk3
        refine plan_nil ?_
        go_wp2_with fail
        go_meet
        exact ⟨g, rfl, G2.out, A3.out, B3.out⟩
    · refine plan_alloc_any _ Z (by rfl) (by rfl) (by rfl) AL.out (fun W' h => h _ _ B0.out B0.out.size) ?_
      intro g W2 hA2 hg2 _ hk2
      (simp only [Act.put, List.setIfInBounds_toArray, List.set_cons_zero, List.set_cons_succ])
      have B2 : Hid (Below w1.heap.size w1 W2) := hk2 _ _ B0.out B0.out.size
      have A2 := Lib.hid hA2; have G2 : Hid (w1.heap.size ≤ g) := Nat.le_trans B0.out.size hg2
      clear hA2 hg2 hk2
      refine plan_call 33 _ _ _ (by kernel_rfl) (by rfl) (by rfl) (by rfl) (by first | exact Mem.ev_none _ | (simp only [List.map_toArray, List.map_cons, List.map_nil, Mem.ev_tmp, List.getD_cons_succ, List.getD_cons_zero] <;> rfl)) ?_
      refine (K1.out _ B2.out).mono ?_
      rintro e w' ⟨rfl, rfl⟩
      refine ⟨_, rfl, B2.out, ?_⟩
      (simp only [Act.put, List.setIfInBounds_toArray, List.set_cons_zero, List.set_cons_succ])
      refine plan_conv _ _ _ _ (.int .i64 (n1 : Int)) (by rfl) (by rfl) (by rfl) (by first | (with_reducible exact Mem.ev_const _ _) | (with_reducible exact Mem.ev_zero _ _ _) | (with_reducible (apply Eq.trans (Mem.ev_tmp _ _ _)); simp only [List.getD_cons_succ, List.getD_cons_zero] <;> rfl)) (fun wx => conv_ui n1 (by omega) wx) ?_
      (simp only [Act.put, List.setIfInBounds_toArray, List.set_cons_zero, List.set_cons_succ])
      refine plan_call 33 _ _ _ (by kernel_rfl) (by rfl) (by rfl) (by rfl) (by first | exact Mem.ev_none _ | (simp only [List.map_toArray, List.map_cons, List.map_nil, Mem.ev_tmp, List.getD_cons_succ, List.getD_cons_zero] <;> rfl)) ?_
      refine (K3.out _ B2.out).mono ?_
      rintro e w' ⟨rfl, rfl⟩
      refine ⟨_, rfl, B2.out, ?_⟩
      (simp only [Act.put, List.setIfInBounds_toArray, List.set_cons_zero, List.set_cons_succ])
      refine plan_conv _ _ _ _ (.int .u32 (n3 : Int)) (by rfl) (by rfl) (by rfl) (by first | (with_reducible exact Mem.ev_const _ _) | (with_reducible exact Mem.ev_zero _ _ _) | (with_reducible (apply Eq.trans (Mem.ev_tmp _ _ _)); simp only [List.getD_cons_succ, List.getD_cons_zero] <;> rfl)) (fun wx => conv_u32 n3 (by omega) wx) ?_
      (simp only [Act.put, List.setIfInBounds_toArray, List.set_cons_zero, List.set_cons_succ])
      refine plan_call 33 _ _ _ (by kernel_rfl) (by rfl) (by rfl) (by rfl) (by first | exact Mem.ev_none _ | (simp only [List.map_toArray, List.map_cons, List.map_nil, Mem.ev_tmp, List.getD_cons_succ, List.getD_cons_zero] <;> rfl)) ?_
      refine (K41.out _ B2.out).mono ?_
      rintro e w' ⟨rfl, rfl⟩
      refine ⟨_, rfl, B2.out, ?_⟩
      (simp only [Act.put, List.setIfInBounds_toArray, List.set_cons_zero, List.set_cons_succ])
      refine plan_conv _ _ _ _ (.int .u32 (n41 : Int)) (by rfl) (by rfl) (by rfl) (by first | (with_reducible exact Mem.ev_const _ _) | (with_reducible exact Mem.ev_zero _ _ _) | (with_reducible (apply Eq.trans (Mem.ev_tmp _ _ _)); simp only [List.getD_cons_succ, List.getD_cons_zero] <;> rfl)) (fun wx => conv_u32 n41 (by omega) wx) ?_
      (simp only [Act.put, List.setIfInBounds_toArray, List.set_cons_zero, List.set_cons_succ])
      refine plan_call 33 _ _ _ (by kernel_rfl) (by rfl) (by rfl) (by rfl) (by first | exact Mem.ev_none _ | (simp only [List.map_toArray, List.map_cons, List.map_nil, Mem.ev_tmp, List.getD_cons_succ, List.getD_cons_zero] <;> rfl)) ?_
      refine (K77.out _ B2.out).mono ?_
      rintro e w' ⟨rfl, rfl⟩
      refine ⟨_, rfl, B2.out, ?_⟩
      (simp only [Act.put, List.setIfInBounds_toArray, List.set_cons_zero, List.set_cons_succ])
      refine plan_build _ _ #[(0, .int .i64 (x0 : Int)), (1, .int .i64 (n1 : Int)), (2, .int .u32 (n3 : Int)), (3, .int .i64 (x7 : Int)), (5, .int .i64 (x40 : Int)), (6, .int .u32 (n41 : Int)), (8, .int .u64 (n77 : Int))] (.agg D) (by rfl) (by rfl) (by rfl) (by simp only [List.map_toArray, List.map_cons, List.map_nil, Mem.ev_tmp, List.getD_cons_succ, List.getD_cons_zero]) BLD.out ?_
      (simp only [Act.put, List.setIfInBounds_toArray, List.set_cons_zero, List.set_cons_succ])
      refine plan_store_any _ _ _ g D Z 26 (by rfl) (by rfl) (by rfl) (by rfl) (by first | (with_reducible exact Mem.ev_const _ _) | (with_reducible exact Mem.ev_zero _ _ _) | (with_reducible (apply Eq.trans (Mem.ev_tmp _ _ _)); simp only [List.getD_cons_succ, List.getD_cons_zero] <;> rfl)) (by first | (with_reducible exact Mem.ev_const _ _) | (with_reducible exact Mem.ev_zero _ _ _) | (with_reducible (apply Eq.trans (Mem.ev_tmp _ _ _)); simp only [List.getD_cons_succ, List.getD_cons_zero] <;> rfl)) (by rw [DS.out]; exact infoAncR) A2.out (by rw [DS.out, ZS.out]) DO.out (fun W' h => h _ _ B2.out G2.out) ?_
      intro W3 hA3 _ hk3
      have A3 := Lib.hid hA3; have B3 : Hid (Below w1.heap.size w1 W3) := hk3 _ _ B2.out G2.out
      clear hA3 hk3
      refine plan_nil ?_
      go_wp2_with fail
      go_meet
      exact ⟨g, rfl, G2.out, A3.out, B3.out⟩
  case rest =>
    obtain ⟨g, rfl, hg, hA, hB⟩ := hcut
    have HG := Lib.hid hg; have A0 := Lib.hid hA; have B0 := Lib.hid hB
    clear hg hA hB BLD DS DO C0 C7 C40 K1 K3 K41 K77 AL
    generalize wc = w2 at *
    go_wp2_with fail
    go_loopw [5] (fun i wr => ∃ j : Nat, j ≤ 32 ∧ i = .int .i64 j ∧ At wr g (ancC (ancJ b j)) 26 ∧ Below w1.heap.size w1 wr) (fun i _ => 32 - (intOf i).toNat)
    case atStart => exact ⟨0, by omega, rfl, by rw [← HD.out]; exact A0.out, B0.out⟩
    case round =>
      clear A0 B0
      obtain ⟨j, hj, rfl, hA, hB⟩ := hrel
      by_cases hlt : j < 32
      · have hlt' : (j : Int) < 32 := by omega
        obtain ⟨C, hC⟩ : ∃ C, C = ancC (ancJ b j) := ⟨_, rfl⟩
        obtain ⟨C2, hC2⟩ : ∃ C, C = ancC (ancJ2 b j) := ⟨_, rfl⟩
        obtain ⟨C3, hC3⟩ : ∃ C, C = ancC (ancJ b (j + 1)) := ⟨_, rfl⟩
        have e1 := ancJ_set1 b HLB.out j hlt
        have e2 := ancJ_set2 b HLB.out j hlt
        have s1 : C.size = 71 := by rw [hC]; exact ancC_size (ancJ_wf b HLB.out j hj)
        have s2 : C2.size = 71 := by rw [hC2]; exact ancC_size (ancJ2_wf b HLB.out j hlt)
        rw [← hC, ← hC2] at e1
        rw [← hC2, ← hC3] at e2
        rw [← hC] at hA
        have d1 := C1.out (8 + j) (by omega)
        have d2 := C1.out (45 + j) (by omega)
        obtain ⟨y1, hy1⟩ : ∃ y, y = (b.getD (8 + j) 0).toNat := ⟨_, rfl⟩
        obtain ⟨y2, hy2⟩ : ∃ y, y = (b.getD (45 + j) 0).toNat := ⟨_, rfl⟩
        rw [← hy1] at d1 e1
        rw [← hy2] at d2 e2
        have HA := Lib.hid hA; have HB : Hid (Below w1.heap.size w1 wr.drew) := hB.drew; have E1 := Lib.hid e1; have E2 := Lib.hid e2; have SC := Lib.hid s1; have SC2 := Lib.hid s2; have D1 := Lib.hid d1; have D2 := Lib.hid d2; have HC3 := Lib.hid hC3
        clear hA hB e1 e2 s1 s2 d1 d2 hC hC2 hC3 hy1 hy2
        go_wp2_with fail
        refine wp_region_plan_in (fun x => Below w1.heap.size w1 x) (.take 0 (.take 1 (.take 2 (.take 3 (.take 4 (.take 5 (.take 6 (.take 7 (.take 8 (.take 9 (.take 10 (.take 11 (.take 12 (.take 13 (.take 15 (.sole 14 (.take 16 (.sole 17 .done)))))))))))))))))) (by kernel_rfl) (by kernel_rfl) (by kernel_rfl) HB.out ?_
        (first | (refine plan_move _ _ (by rfl) (by rfl) (.inl (by rfl)) (by first | (with_reducible exact Mem.ev_const _ _) | (with_reducible exact Mem.ev_zero _ _ _) | (with_reducible (apply Eq.trans (Mem.ev_tmp _ _ _)); simp only [List.getD_cons_succ, List.getD_cons_zero] <;> rfl)) ?_) | (refine plan_move _ _ (by rfl) (by rfl) (.inr (by rfl)) (by first | (with_reducible exact Mem.ev_const _ _) | (with_reducible exact Mem.ev_zero _ _ _) | (with_reducible (apply Eq.trans (Mem.ev_tmp _ _ _)); simp only [List.getD_cons_succ, List.getD_cons_zero] <;> rfl)) ?_) | (refine plan_pick_t _ _ _ _ (by rfl) (by rfl) (by rfl) (by first | (with_reducible exact Mem.ev_const _ _) | (with_reducible exact Mem.ev_zero _ _ _) | (with_reducible (apply Eq.trans (Mem.ev_tmp _ _ _)); simp only [List.getD_cons_succ, List.getD_cons_zero] <;> rfl)) (by first | (with_reducible exact Mem.ev_const _ _) | (with_reducible exact Mem.ev_zero _ _ _) | (with_reducible (apply Eq.trans (Mem.ev_tmp _ _ _)); simp only [List.getD_cons_succ, List.getD_cons_zero] <;> rfl)) ?_) | (refine plan_pick_f _ _ _ _ (by rfl) (by rfl) (by rfl) (by first | (with_reducible exact Mem.ev_const _ _) | (with_reducible exact Mem.ev_zero _ _ _) | (with_reducible (apply Eq.trans (Mem.ev_tmp _ _ _)); simp only [List.getD_cons_succ, List.getD_cons_zero] <;> rfl)) (by first | (with_reducible exact Mem.ev_const _ _) | (with_reducible exact Mem.ev_zero _ _ _) | (with_reducible (apply Eq.trans (Mem.ev_tmp _ _ _)); simp only [List.getD_cons_succ, List.getD_cons_zero] <;> rfl)) ?_))
        (simp only [Act.put, List.setIfInBounds_toArray, List.set_cons_zero, List.set_cons_succ])
        (first | (refine plan_move _ _ (by rfl) (by rfl) (.inl (by rfl)) (by first | (with_reducible exact Mem.ev_const _ _) | (with_reducible exact Mem.ev_zero _ _ _) | (with_reducible (apply Eq.trans (Mem.ev_tmp _ _ _)); simp only [List.getD_cons_succ, List.getD_cons_zero] <;> rfl)) ?_) | (refine plan_move _ _ (by rfl) (by rfl) (.inr (by rfl)) (by first | (with_reducible exact Mem.ev_const _ _) | (with_reducible exact Mem.ev_zero _ _ _) | (with_reducible (apply Eq.trans (Mem.ev_tmp _ _ _)); simp only [List.getD_cons_succ, List.getD_cons_zero] <;> rfl)) ?_) | (refine plan_pick_t _ _ _ _ (by rfl) (by rfl) (by rfl) (by first | (with_reducible exact Mem.ev_const _ _) | (with_reducible exact Mem.ev_zero _ _ _) | (with_reducible (apply Eq.trans (Mem.ev_tmp _ _ _)); simp only [List.getD_cons_succ, List.getD_cons_zero] <;> rfl)) (by first | (with_reducible exact Mem.ev_const _ _) | (with_reducible exact Mem.ev_zero _ _ _) | (with_reducible (apply Eq.trans (Mem.ev_tmp _ _ _)); simp only [List.getD_cons_succ, List.getD_cons_zero] <;> rfl)) ?_) | (refine plan_pick_f _ _ _ _ (by rfl) (by rfl) (by rfl) (by first | (with_reducible exact Mem.ev_const _ _) | (with_reducible exact Mem.ev_zero _ _ _) | (with_reducible (apply Eq.trans (Mem.ev_tmp _ _ _)); simp only [List.getD_cons_succ, List.getD_cons_zero] <;> rfl)) (by first | (with_reducible exact Mem.ev_const _ _) | (with_reducible exact Mem.ev_zero _ _ _) | (with_reducible (apply Eq.trans (Mem.ev_tmp _ _ _)); simp only [List.getD_cons_succ, List.getD_cons_zero] <;> rfl)) ?_))
        (simp only [Act.put, List.setIfInBounds_toArray, List.set_cons_zero, List.set_cons_succ])
        (first | (refine plan_move _ _ (by rfl) (by rfl) (.inl (by rfl)) (by first | (with_reducible exact Mem.ev_const _ _) | (with_reducible exact Mem.ev_zero _ _ _) | (with_reducible (apply Eq.trans (Mem.ev_tmp _ _ _)); simp only [List.getD_cons_succ, List.getD_cons_zero] <;> rfl)) ?_) | (refine plan_move _ _ (by rfl) (by rfl) (.inr (by rfl)) (by first | (with_reducible exact Mem.ev_const _ _) | (with_reducible exact Mem.ev_zero _ _ _) | (with_reducible (apply Eq.trans (Mem.ev_tmp _ _ _)); simp only [List.getD_cons_succ, List.getD_cons_zero] <;> rfl)) ?_) | (refine plan_pick_t _ _ _ _ (by rfl) (by rfl) (by rfl) (by first | (with_reducible exact Mem.ev_const _ _) | (with_reducible exact Mem.ev_zero _ _ _) | (with_reducible (apply Eq.trans (Mem.ev_tmp _ _ _)); simp only [List.getD_cons_succ, List.getD_cons_zero] <;> rfl)) (by first | (with_reducible exact Mem.ev_const _ _) | (with_reducible exact Mem.ev_zero _ _ _) | (with_reducible (apply Eq.trans (Mem.ev_tmp _ _ _)); simp only [List.getD_cons_succ, List.getD_cons_zero] <;> rfl)) ?_) | (refine plan_pick_f _ _ _ _ (by rfl) (by rfl) (by rfl) (by first | (with_reducible exact Mem.ev_const _ _) | (with_reducible exact Mem.ev_zero _ _ _) | (with_reducible (apply Eq.trans (Mem.ev_tmp _ _ _)); simp only [List.getD_cons_succ, List.getD_cons_zero] <;> rfl)) (by first | (with_reducible exact Mem.ev_const _ _) | (with_reducible exact Mem.ev_zero _ _ _) | (with_reducible (apply Eq.trans (Mem.ev_tmp _ _ _)); simp only [List.getD_cons_succ, List.getD_cons_zero] <;> rfl)) ?_))
        (simp only [Act.put, List.setIfInBounds_toArray, List.set_cons_zero, List.set_cons_succ])
        (first | (refine plan_move _ _ (by rfl) (by rfl) (.inl (by rfl)) (by first | (with_reducible exact Mem.ev_const _ _) | (with_reducible exact Mem.ev_zero _ _ _) | (with_reducible (apply Eq.trans (Mem.ev_tmp _ _ _)); simp only [List.getD_cons_succ, List.getD_cons_zero] <;> rfl)) ?_) | (refine plan_move _ _ (by rfl) (by rfl) (.inr (by rfl)) (by first | (with_reducible exact Mem.ev_const _ _) | (with_reducible exact Mem.ev_zero _ _ _) | (with_reducible (apply Eq.trans (Mem.ev_tmp _ _ _)); simp only [List.getD_cons_succ, List.getD_cons_zero] <;> rfl)) ?_) | (refine plan_pick_t _ _ _ _ (by rfl) (by rfl) (by rfl) (by first | (with_reducible exact Mem.ev_const _ _) | (with_reducible exact Mem.ev_zero _ _ _) | (with_reducible (apply Eq.trans (Mem.ev_tmp _ _ _)); simp only [List.getD_cons_succ, List.getD_cons_zero] <;> rfl)) (by first | (with_reducible exact Mem.ev_const _ _) | (with_reducible exact Mem.ev_zero _ _ _) | (with_reducible (apply Eq.trans (Mem.ev_tmp _ _ _)); simp only [List.getD_cons_succ, List.getD_cons_zero] <;> rfl)) ?_) | (refine plan_pick_f _ _ _ _ (by rfl) (by rfl) (by rfl) (by first | (with_reducible exact Mem.ev_const _ _) | (with_reducible exact Mem.ev_zero _ _ _) | (with_reducible (apply Eq.trans (Mem.ev_tmp _ _ _)); simp only [List.getD_cons_succ, List.getD_cons_zero] <;> rfl)) (by first | (with_reducible exact Mem.ev_const _ _) | (with_reducible exact Mem.ev_zero _ _ _) | (with_reducible (apply Eq.trans (Mem.ev_tmp _ _ _)); simp only [List.getD_cons_succ, List.getD_cons_zero] <;> rfl)) ?_))
        (simp only [Act.put, List.setIfInBounds_toArray, List.set_cons_zero, List.set_cons_succ])
        refine plan_bin _ _ _ _ _ _ _ _ (by rfl) (by rfl) (by rfl) (by first | (with_reducible exact Mem.ev_const _ _) | (with_reducible exact Mem.ev_zero _ _ _) | (with_reducible (apply Eq.trans (Mem.ev_tmp _ _ _)); simp only [List.getD_cons_succ, List.getD_cons_zero] <;> rfl)) (by first | (with_reducible exact Mem.ev_const _ _) | (with_reducible exact Mem.ev_zero _ _ _) | (with_reducible (apply Eq.trans (Mem.ev_tmp _ _ _)); simp only [List.getD_cons_succ, List.getD_cons_zero] <;> rfl)) (fun wx => o_iadd _ _ _ _ 8 ((j : Nat) : Int) ((8 + j : Nat) : Int) (by omega) (by omega) (by omega) wx) ?_
        (simp only [Act.put, List.setIfInBounds_toArray, List.set_cons_zero, List.set_cons_succ])
        refine plan_index 27 5 _ _ bb oo 128 cap (8 + j) (by rfl) (by rfl) (by rfl) (by first | (with_reducible exact Mem.ev_const _ _) | (with_reducible exact Mem.ev_zero _ _ _) | (with_reducible (apply Eq.trans (Mem.ev_tmp _ _ _)); simp only [List.getD_cons_succ, List.getD_cons_zero] <;> rfl)) (by first | (with_reducible exact Mem.ev_const _ _) | (with_reducible exact Mem.ev_zero _ _ _) | (with_reducible (apply Eq.trans (Mem.ev_tmp _ _ _)); simp only [List.getD_cons_succ, List.getD_cons_zero] <;> rfl)) (by omega) Try.underlying27 (by kernel_rfl) ?_
        (simp only [Act.put, List.setIfInBounds_toArray, List.set_cons_zero, List.set_cons_succ])
        refine plan_cell 5 _ _ (.int .u8 (y1 : Int)) _ (by rfl) (by rfl) (by rfl) (by first | (with_reducible exact Mem.ev_const _ _) | (with_reducible exact Mem.ev_zero _ _ _) | (with_reducible (apply Eq.trans (Mem.ev_tmp _ _ _)); simp only [List.getD_cons_succ, List.getD_cons_zero] <;> rfl)) (fun w' hw' => (hw'.cell (p := ⟨bb, oo + (8 + j), none⟩) BB.out).trans D1.out) Try.underlying5 (by rfl) ?_
        (simp only [Act.put, List.setIfInBounds_toArray, List.set_cons_zero, List.set_cons_succ])
        (first | (refine plan_move _ _ (by rfl) (by rfl) (.inl (by rfl)) (by first | (with_reducible exact Mem.ev_const _ _) | (with_reducible exact Mem.ev_zero _ _ _) | (with_reducible (apply Eq.trans (Mem.ev_tmp _ _ _)); simp only [List.getD_cons_succ, List.getD_cons_zero] <;> rfl)) ?_) | (refine plan_move _ _ (by rfl) (by rfl) (.inr (by rfl)) (by first | (with_reducible exact Mem.ev_const _ _) | (with_reducible exact Mem.ev_zero _ _ _) | (with_reducible (apply Eq.trans (Mem.ev_tmp _ _ _)); simp only [List.getD_cons_succ, List.getD_cons_zero] <;> rfl)) ?_) | (refine plan_pick_t _ _ _ _ (by rfl) (by rfl) (by rfl) (by first | (with_reducible exact Mem.ev_const _ _) | (with_reducible exact Mem.ev_zero _ _ _) | (with_reducible (apply Eq.trans (Mem.ev_tmp _ _ _)); simp only [List.getD_cons_succ, List.getD_cons_zero] <;> rfl)) (by first | (with_reducible exact Mem.ev_const _ _) | (with_reducible exact Mem.ev_zero _ _ _) | (with_reducible (apply Eq.trans (Mem.ev_tmp _ _ _)); simp only [List.getD_cons_succ, List.getD_cons_zero] <;> rfl)) ?_) | (refine plan_pick_f _ _ _ _ (by rfl) (by rfl) (by rfl) (by first | (with_reducible exact Mem.ev_const _ _) | (with_reducible exact Mem.ev_zero _ _ _) | (with_reducible (apply Eq.trans (Mem.ev_tmp _ _ _)); simp only [List.getD_cons_succ, List.getD_cons_zero] <;> rfl)) (by first | (with_reducible exact Mem.ev_const _ _) | (with_reducible exact Mem.ev_zero _ _ _) | (with_reducible (apply Eq.trans (Mem.ev_tmp _ _ _)); simp only [List.getD_cons_succ, List.getD_cons_zero] <;> rfl)) ?_))
        (simp only [Act.put, List.setIfInBounds_toArray, List.set_cons_zero, List.set_cons_succ])
        (first | (refine plan_move _ _ (by rfl) (by rfl) (.inl (by rfl)) (by first | (with_reducible exact Mem.ev_const _ _) | (with_reducible exact Mem.ev_zero _ _ _) | (with_reducible (apply Eq.trans (Mem.ev_tmp _ _ _)); simp only [List.getD_cons_succ, List.getD_cons_zero] <;> rfl)) ?_) | (refine plan_move _ _ (by rfl) (by rfl) (.inr (by rfl)) (by first | (with_reducible exact Mem.ev_const _ _) | (with_reducible exact Mem.ev_zero _ _ _) | (with_reducible (apply Eq.trans (Mem.ev_tmp _ _ _)); simp only [List.getD_cons_succ, List.getD_cons_zero] <;> rfl)) ?_) | (refine plan_pick_t _ _ _ _ (by rfl) (by rfl) (by rfl) (by first | (with_reducible exact Mem.ev_const _ _) | (with_reducible exact Mem.ev_zero _ _ _) | (with_reducible (apply Eq.trans (Mem.ev_tmp _ _ _)); simp only [List.getD_cons_succ, List.getD_cons_zero] <;> rfl)) (by first | (with_reducible exact Mem.ev_const _ _) | (with_reducible exact Mem.ev_zero _ _ _) | (with_reducible (apply Eq.trans (Mem.ev_tmp _ _ _)); simp only [List.getD_cons_succ, List.getD_cons_zero] <;> rfl)) ?_) | (refine plan_pick_f _ _ _ _ (by rfl) (by rfl) (by rfl) (by first | (with_reducible exact Mem.ev_const _ _) | (with_reducible exact Mem.ev_zero _ _ _) | (with_reducible (apply Eq.trans (Mem.ev_tmp _ _ _)); simp only [List.getD_cons_succ, List.getD_cons_zero] <;> rfl)) (by first | (with_reducible exact Mem.ev_const _ _) | (with_reducible exact Mem.ev_zero _ _ _) | (with_reducible (apply Eq.trans (Mem.ev_tmp _ _ _)); simp only [List.getD_cons_succ, List.getD_cons_zero] <;> rfl)) ?_))
        (simp only [Act.put, List.setIfInBounds_toArray, List.set_cons_zero, List.set_cons_succ])
        refine plan_bin _ _ _ _ _ _ _ _ (by rfl) (by rfl) (by rfl) (by first | (with_reducible exact Mem.ev_const _ _) | (with_reducible exact Mem.ev_zero _ _ _) | (with_reducible (apply Eq.trans (Mem.ev_tmp _ _ _)); simp only [List.getD_cons_succ, List.getD_cons_zero] <;> rfl)) (by first | (with_reducible exact Mem.ev_const _ _) | (with_reducible exact Mem.ev_zero _ _ _) | (with_reducible (apply Eq.trans (Mem.ev_tmp _ _ _)); simp only [List.getD_cons_succ, List.getD_cons_zero] <;> rfl)) (fun wx => o_iadd _ _ _ _ 45 ((j : Nat) : Int) ((45 + j : Nat) : Int) (by omega) (by omega) (by omega) wx) ?_
        (simp only [Act.put, List.setIfInBounds_toArray, List.set_cons_zero, List.set_cons_succ])
        refine plan_index 27 5 _ _ bb oo 128 cap (45 + j) (by rfl) (by rfl) (by rfl) (by first | (with_reducible exact Mem.ev_const _ _) | (with_reducible exact Mem.ev_zero _ _ _) | (with_reducible (apply Eq.trans (Mem.ev_tmp _ _ _)); simp only [List.getD_cons_succ, List.getD_cons_zero] <;> rfl)) (by first | (with_reducible exact Mem.ev_const _ _) | (with_reducible exact Mem.ev_zero _ _ _) | (with_reducible (apply Eq.trans (Mem.ev_tmp _ _ _)); simp only [List.getD_cons_succ, List.getD_cons_zero] <;> rfl)) (by omega) Try.underlying27 (by kernel_rfl) ?_
        (simp only [Act.put, List.setIfInBounds_toArray, List.set_cons_zero, List.set_cons_succ])
        refine plan_cell 5 _ _ (.int .u8 (y2 : Int)) _ (by rfl) (by rfl) (by rfl) (by first | (with_reducible exact Mem.ev_const _ _) | (with_reducible exact Mem.ev_zero _ _ _) | (with_reducible (apply Eq.trans (Mem.ev_tmp _ _ _)); simp only [List.getD_cons_succ, List.getD_cons_zero] <;> rfl)) (fun w' hw' => (hw'.cell (p := ⟨bb, oo + (45 + j), none⟩) BB.out).trans D2.out) Try.underlying5 (by rfl) ?_
        (simp only [Act.put, List.setIfInBounds_toArray, List.set_cons_zero, List.set_cons_succ])
        refine plan_field 26 _ 4 g 0 ⟨g, 4, none⟩ (by rfl) (by rfl) (by rfl) (by first | (with_reducible exact Mem.ev_const _ _) | (with_reducible exact Mem.ev_zero _ _ _) | (with_reducible (apply Eq.trans (Mem.ev_tmp _ _ _)); simp only [List.getD_cons_succ, List.getD_cons_zero] <;> rfl)) (fun wx => by go_simp) ?_
        (simp only [Act.put, List.setIfInBounds_toArray, List.set_cons_zero, List.set_cons_succ])
        refine plan_index_arr 23 5 32 _ _ g 4 1 j (by rfl) (by rfl) (by rfl) (by first | (with_reducible exact Mem.ev_const _ _) | (with_reducible exact Mem.ev_zero _ _ _) | (with_reducible (apply Eq.trans (Mem.ev_tmp _ _ _)); simp only [List.getD_cons_succ, List.getD_cons_zero] <;> rfl)) (by first | (with_reducible exact Mem.ev_const _ _) | (with_reducible exact Mem.ev_zero _ _ _) | (with_reducible (apply Eq.trans (Mem.ev_tmp _ _ _)); simp only [List.getD_cons_succ, List.getD_cons_zero] <;> rfl)) hlt Try.underlying23 infoB (by decide) ?_
        rw [Nat.mul_one]
        (simp only [Act.put, List.setIfInBounds_toArray, List.set_cons_zero, List.set_cons_succ])
        refine plan_field 26 _ 7 g 0 ⟨g, 38, none⟩ (by rfl) (by rfl) (by rfl) (by first | (with_reducible exact Mem.ev_const _ _) | (with_reducible exact Mem.ev_zero _ _ _) | (with_reducible (apply Eq.trans (Mem.ev_tmp _ _ _)); simp only [List.getD_cons_succ, List.getD_cons_zero] <;> rfl)) (fun wx => by go_simp) ?_
        (simp only [Act.put, List.setIfInBounds_toArray, List.set_cons_zero, List.set_cons_succ])
        refine plan_store_one _ _ _ g (4 + j) (.int .u8 (y1 : Int)) C 26 (by rfl) (by rfl) (by rfl) (by rfl) (by first | (with_reducible exact Mem.ev_const _ _) | (with_reducible exact Mem.ev_zero _ _ _) | (with_reducible (apply Eq.trans (Mem.ev_tmp _ _ _)); simp only [List.getD_cons_succ, List.getD_cons_zero] <;> rfl)) (by first | (with_reducible exact Mem.ev_const _ _) | (with_reducible exact Mem.ev_zero _ _ _) | (with_reducible (apply Eq.trans (Mem.ev_tmp _ _ _)); simp only [List.getD_cons_succ, List.getD_cons_zero] <;> rfl)) (by rfl) infoB (show At wr.drew g C 26 from HA.out) (by rw [SC.out]; omega) (HB.out.setCell HG.out _) ?_
        have A14 : Hid (At (wr.drew.setCell ⟨g, 4 + j, none⟩ (.int .u8 (y1 : Int))) g C2 26) := by rw [← E1.out]; exact At.set (w := wr.drew) HA.out _ _
        have B14 : Hid (Below w1.heap.size w1 (wr.drew.setCell ⟨g, 4 + j, none⟩ (.int .u8 (y1 : Int)))) := HB.out.setCell HG.out _
        generalize wr.drew.setCell ⟨g, 4 + j, none⟩ (.int .u8 (y1 : Int)) = W14 at *
        refine plan_index_arr 23 5 32 _ _ g 38 1 j (by rfl) (by rfl) (by rfl) (by first | (with_reducible exact Mem.ev_const _ _) | (with_reducible exact Mem.ev_zero _ _ _) | (with_reducible (apply Eq.trans (Mem.ev_tmp _ _ _)); simp only [List.getD_cons_succ, List.getD_cons_zero] <;> rfl)) (by first | (with_reducible exact Mem.ev_const _ _) | (with_reducible exact Mem.ev_zero _ _ _) | (with_reducible (apply Eq.trans (Mem.ev_tmp _ _ _)); simp only [List.getD_cons_succ, List.getD_cons_zero] <;> rfl)) hlt Try.underlying23 infoB (by decide) ?_
        rw [Nat.mul_one]
        (simp only [Act.put, List.setIfInBounds_toArray, List.set_cons_zero, List.set_cons_succ])
        refine plan_store_one _ _ _ g (38 + j) (.int .u8 (y2 : Int)) C2 26 (by rfl) (by rfl) (by rfl) (by rfl) (by first | (with_reducible exact Mem.ev_const _ _) | (with_reducible exact Mem.ev_zero _ _ _) | (with_reducible (apply Eq.trans (Mem.ev_tmp _ _ _)); simp only [List.getD_cons_succ, List.getD_cons_zero] <;> rfl)) (by first | (with_reducible exact Mem.ev_const _ _) | (with_reducible exact Mem.ev_zero _ _ _) | (with_reducible (apply Eq.trans (Mem.ev_tmp _ _ _)); simp only [List.getD_cons_succ, List.getD_cons_zero] <;> rfl)) (by rfl) infoB A14.out (by rw [SC2.out]; omega) (B14.out.setCell HG.out _) ?_
        have A17 : Hid (At (W14.setCell ⟨g, 38 + j, none⟩ (.int .u8 (y2 : Int))) g C3 26) := by rw [← E2.out]; exact At.set (w := W14) A14.out _ _
        have B17 : Hid (Below w1.heap.size w1 (W14.setCell ⟨g, 38 + j, none⟩ (.int .u8 (y2 : Int)))) := B14.out.setCell HG.out _
        generalize W14.setCell ⟨g, 38 + j, none⟩ (.int .u8 (y2 : Int)) = W17 at *
        refine plan_nil ?_
        go_wp2_with fail
        go_roundw
        case rel => exact ⟨j + 1, by omega, by go_num, by rw [← HC3.out]; exact A17.out, B17.out⟩
        case measure => simp [intOf]; omega
      · have hge : ¬ (j : Int) < 32 := by omega
        have hj32 : j = 32 := by omega
        subst hj32
        rw [ancJ_all b HLB.out] at hA
        have HA := Lib.hid hA; have HB := Lib.hid hB
        clear hA hB hlt hj
        have hwf := ancOf_wf b HLB.out
        have rs := ancC_size hwf
        have AS := Lib.hid rs
        by_cases hm : mayA (ancOf b) = true
        · have LG := Lib.hid (fun wx => rlay_good (ancOf b) hwf hm wx)
          have PY2 := Lib.hid (fun h2 => PY.out hm h2)
          have PN2 := Lib.hid (fun (h2 : ¬ layA (ancOf b) = b) => PN.out (fun h => h2 h.2))
          have LL := Lib.hid (layA_length hwf)
          clear hm hwf rs PN PY
          obtain ⟨M, hM⟩ : ∃ M, M = ancC (ancOf b) := ⟨_, rfl⟩
          have mo : M.all (·.oneCell') = true := by rw [hM]; exact ancC_one _
          have MO := Lib.hid mo; have HM := Lib.hid hM
          rw [← hM] at HA AS LG
          clear mo hM
          go_wp2_with (refine wpList_load_all (by rfl) 26 _ (by rfl) g (by rfl) _ Try.underlying26 (by rfl) M _ HA.out (by rw [AS.out]; exact infoAncR) ?_)
          refine (LG.out wr).mono ?_
          rintro e w4 ⟨v4, rfl, ho4, hb4⟩
          obtain ⟨a4, c4, rfl⟩ := own_hd7 ho4 LL.out.symm
          obtain ⟨L, hL⟩ : ∃ L, L = layA (ancOf b) := ⟨_, rfl⟩
          rw [← hL] at LL PY2 PN2
          have sl4 := ho4.sl
          rw [← hL] at sl4
          have S4 := Lib.hid sl4
          have A4 := Lib.hid (HA.out.below hb4 HA.out.lt); have B4 : Hid (Below w1.heap.size w1 w4) := HB.out.trans (hb4.mono HB.out.size)
          have S5 := Lib.hid (S1.out.below B4.out)
          clear ho4 hb4 sl4 hL LG HA HB S1 C1
          go_wp2_with fail
          go_loopw [8] (fun i wr => ∃ j : Nat, j ≤ 128 ∧ i = .int .i64 j ∧ L.take j = b.take j ∧ ∃ q, wr = w4.drewN q) (fun i _ => 128 - (intOf i).toNat)
          case atStart => exact ⟨0, Nat.zero_le _, rfl, rfl, 0, rfl⟩
          case round =>
            obtain ⟨j, hj, rfl, htk, q, rfl⟩ := hrel
            have HT := Lib.hid htk; clear htk
            by_cases hlt : j < 128
            · obtain ⟨b1, o1, e1, cl⟩ := sl_at (i := j) (show Sl w4 (.slice a4 L.length c4) L by rw [LL.out]; exact S4.out) (by rw [LL.out]; exact hlt)
              obtain ⟨b2, o2, e2, cm⟩ := sl_at (i := j) (show Sl w4 (.slice (some ⟨bb, oo, none⟩) b.length cap) b by rw [HLB.out]; exact S5.out) (by rw [HLB.out]; exact hlt)
              subst e1
              injection e2 with e2
              injection e2 with e3 e4
              subst e3; subst e4
              have z0 : (0 : Int) ≤ (j : Int) := by omega
              have zn : (j : Int) < 128 := by omega
              by_cases hxy : L.getD j 0 = b.getD j 0
              · have htn := take_next L b j (by rw [LL.out]; exact hlt) (by rw [HLB.out]; exact hlt) HT.out hxy
                rw [← hxy] at cm
                obtain ⟨x, hx⟩ : ∃ x, x = L.getD j 0 := ⟨_, rfl⟩
                rw [← hx] at cl cm
                have HTN := Lib.hid htn
                clear hxy hx htn
                go_wp2
                go_quiet (fail)
                go_wp2
                go_roundw
                case rel => exact ⟨j + 1, by omega, by go_num, HTN.out, _, rfl⟩
                case measure => simp [intOf]; omega
              · have hs : ¬ L = b := fun e => hxy (by rw [e])
                obtain ⟨x, hx⟩ : ∃ x, x = L.getD j 0 := ⟨_, rfl⟩
                obtain ⟨y, hy⟩ : ∃ y, y = b.getD j 0 := ⟨_, rfl⟩
                rw [← hx] at cl hxy
                rw [← hy] at cm hxy
                have hbn : (B8 x != B8 y) = true := by
                  rw [bne_iff_ne]; exact fun e => hxy (B8_inj e)
                have hbe : ¬ B8 x = B8 y := fun e => hxy (B8_inj e)
                have HS := Lib.hid (PN2.out hs)
                have bq : Hid (∀ q, Below w1.heap.size w1 (w4.drewN q)) := fun q => B4.out.trans ⟨rfl, rfl, rfl, Nat.le_refl _, fun _ _ => rfl⟩
                clear hs hx hy hxy
                go_wp2
                go_quiet (fail)
                go_wp2_with (first
                  | (refine Mem.wpList_build (by rfl) 26 _ #[] (.agg Z) (by rfl) (by simp) BN.out ?_)
                  | (refine wpList_store_all (by rfl) 26 _ _ (by rfl) (by rfl) w.heap.size Z (by rfl) (by rfl) (by rw [ZS.out]; exact infoAncR) Z 26 (AZ.out.below (B4.out.trans ⟨rfl, rfl, rfl, Nat.le_refl _, fun _ _ => rfl⟩) AZ.out.lt) (by rfl) ZO.out ?_))
                try simp only [Exit.inBlock, Exit.then]
                refine ret_row_tmp (by rfl) w.heap.size 26 Z _ _ (by rfl) (by rfl) ((AZ.out.below (bq.out _) AZ.out.lt).row Z) Try.underlying26 (by rfl) (by rw [ZS.out]; exact infoAncR) ?_
                exact ⟨by rw [HS.out, ← HZ.out]; rfl, below_row (BZ.out.trans ((bq.out _).mono BZ.out.size)) (Nat.le_refl _) Z⟩
            · have hjn : j = 128 := by omega
              have hge : ¬ (j : Int) < 128 := by omega
              have hs : L = b := by
                have h := HT.out
                rw [hjn, ← LL.out, List.take_length, LL.out, ← HLB.out, List.take_length] at h
                exact h
              have HS := Lib.hid (PY2.out hs)
              have bq : Hid (Below w1.heap.size w1 (w4.drewN q)) := B4.out.trans ⟨rfl, rfl, rfl, Nat.le_refl _, fun _ _ => rfl⟩
              have aq : Hid (At (w4.drewN q) g M 26) := A4.out.below (w' := w4.drewN q) ⟨rfl, rfl, rfl, Nat.le_refl _, fun _ _ => rfl⟩ A4.out.lt
              clear hs hjn hlt hj
              go_wp2_with (first
                | (refine wpList_load_all (by rfl) 26 _ (by rfl) g (by rfl) _ Try.underlying26 (by rfl) M _ aq.out (by rw [AS.out]; exact infoAncR) ?_)
                | (refine wpList_store_all (by rfl) 26 _ _ (by rfl) (by rfl) w.heap.size M (by rfl) (by rfl) (by rw [AS.out]; exact infoAncR) Z 26 (AZ.out.below bq.out AZ.out.lt) (by rw [AS.out, ZS.out]) MO.out ?_))
              try simp only [Exit.inBlock, Exit.then]
              refine ret_row_tmp (by rfl) w.heap.size 26 M _ _ (by rfl) (by rfl) (At.row (C := Z) (AZ.out.below bq.out AZ.out.lt) M) Try.underlying26 (by rfl) (by rw [AS.out]; exact infoAncR) ?_
              exact ⟨by rw [HS.out, ← HM.out]; rfl, below_row (BZ.out.trans (bq.out.mono BZ.out.size)) (Nat.le_refl _) M⟩
        · have hmf : mayA (ancOf b) = false := by simpa using hm
          have LG := Lib.hid (fun wx => rlay_bad (ancOf b) hwf hmf wx)
          have PN2 := Lib.hid (PN.out (fun h => hm h.1))
          clear hm hmf hwf rs PN PY
          obtain ⟨M, hM⟩ : ∃ M, M = ancC (ancOf b) := ⟨_, rfl⟩
          rw [← hM] at HA AS LG
          clear hM
          go_wp2_with (refine wpList_load_all (by rfl) 26 _ (by rfl) g (by rfl) _ Try.underlying26 (by rfl) M _ HA.out (by rw [AS.out]; exact infoAncR) ?_)
          refine (LG.out wr).mono ?_
          rintro e w4 ⟨rfl, hb4⟩
          have B4 : Hid (Below w1.heap.size w1 w4) := HB.out.trans (hb4.mono HB.out.size)
          clear hb4 LG HA HB S1 C1
          go_wp2_with (first
            | (refine Mem.wpList_build (by rfl) 26 _ #[] (.agg Z) (by rfl) (by simp) BN.out ?_)
            | (refine wpList_store_all (by rfl) 26 _ _ (by rfl) (by rfl) w.heap.size Z (by rfl) (by rfl) (by rw [ZS.out]; exact infoAncR) Z 26 (AZ.out.below B4.out AZ.out.lt) (by rfl) ZO.out ?_))
          try simp only [Exit.inBlock, Exit.then]
          refine ret_row_tmp (by rfl) w.heap.size 26 Z _ _ (by rfl) (by rfl) ((AZ.out.below B4.out AZ.out.lt).row Z) Try.underlying26 (by rfl) (by rw [ZS.out]; exact infoAncR) ?_
          exact ⟨by rw [PN2.out, ← HZ.out]; rfl, below_row (BZ.out.trans (B4.out.mono BZ.out.size)) (Nat.le_refl _) Z⟩
theorem rparse_any (b : List (BitVec 8)) (v : Value) (w : World) (hv : Sl w v b) (hl : b.length ≤ 1000) :
    Calls Try.prog 15 #[v] w fun e w' => e = .returned (.tuple #[.agg (ancC (parseA b).1), .int .i64 ((parseA b).2 : Nat)]) ∧ Below w.heap.size w w' := by
  by_cases h : b.length = 128
  · exact rparse_128 b v w hv h
  · refine (rparse_bad b v w hv hl h).mono ?_
    rintro e w' ⟨rfl, hb⟩
    refine ⟨?_, hb⟩
    rw [parseA_bad b h]
    split <;> rfl
end Sha
end Go.Proofs.Ytknaimpnkflfnaa
