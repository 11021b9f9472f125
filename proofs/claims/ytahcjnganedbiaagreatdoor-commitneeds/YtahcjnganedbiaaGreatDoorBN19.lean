/- My own texts, merged. -/
import Derived.Test.YtahcjnganedbiaaGreatDoorBN15
namespace Go.Proofs.YtahcjnganedbiaaGreatDoor
namespace Sha
open Go.RowKit Mem
theorem conv_b (x : BitVec 8) (w : World) : (convert 5 62 (.int .u8 (B8 x))).run Tryz.prog w = .ok (.int .u32 (B8 x)) w := by
 have h0 := B8_lo x; have h1 := B8_hi x
 have e : (convert 5 62 (.int .u8 (B8 x))).run Tryz.prog w = .ok (.int .u32 (IntKind.u32.wrap (B8 x))) w := by kernel_rfl
 rw [e, u32_id _ h0 (by omega)]
theorem crotl_val (x : BitVec 32) (k : Nat) (hk : k < 32) :
 bits BinOp.or IntKind.u32 (V x * 2 ^ k % 4294967296) (V x / 2 ^ (32 - k)) = V (x.rotateLeft k) := by
 have e1 : V x * 2 ^ k % 4294967296 = V (x <<< k) := by
  unfold V
  rw [BitVec.toNat_shiftLeft, Nat.shiftLeft_eq]
  show _ = ((x.toNat * 2 ^ k % 4294967296 : Nat) : Int)
  rw [Int.natCast_emod, Int.natCast_mul, Int.natCast_pow]; rfl
 have e2 : V x / 2 ^ (32 - k) = V (x >>> (32 - k)) := by
  unfold V
  rw [BitVec.toNat_ushiftRight, Nat.shiftRight_eq_div_pow, Int.natCast_ediv, Int.natCast_pow]; rfl
 rw [e1, e2, r_or, BitVec.rotateLeft_def, Nat.mod_eq_of_lt hk]
set_option maxHeartbeats 400000 in
theorem crotl_any (x : BitVec 32) (n : Int) (k : Nat) (w : World) (hk : bits BinOp.and IntKind.u64 (IntKind.u64.wrap n) 31 = (k : Int)) (hk' : k < 32) :
 Calls Tryz.prog 173 #[.int .u32 (V x), .int .i64 n] w fun e w' => e = .returned (.int .u32 (V (x.rotateLeft k))) ∧ w = w' := by
 have hv0 := V_lo x
 have hv1 := V_hi x
 go_enter Tryz.func173, Tryz.ntmps173
 go_wp2
 go_ret
 exact ⟨congrArg (fun q => Ending.returned (.int .u32 q)) (crotl_val x k hk'), rfl⟩
theorem rot_any (x : BitVec 32) (n : Nat) (w : World) (hn : n < 32) :
 Calls Tryz.prog 173 #[.int .u32 (V x), .int .i64 (n : Int)] w fun e w' => e = .returned (.int .u32 (V (x.rotateLeft n))) ∧ w = w' :=
 crotl_any x n n w (by rw [and31]; omega) hn
set_option maxRecDepth 100000 in
set_option maxHeartbeats 1000000 in
theorem quarter_any (q : Q4) (w : World) : Calls Tryz.prog 172 #[.agg (qOf q)] w fun e w' => e = .returned (.agg (qOf (qr q))) ∧ Below w.heap.size w w' := by
 obtain ⟨X, hX⟩ : ∃ X, X = Z4 := ⟨_, rfl⟩
 have hx := zero4
 rw [← hX] at hx
 have hXs : X.size = 4 := by rw [hX]; rfl
 obtain ⟨C, hC⟩ : ∃ C, C = qOf q := ⟨_, rfl⟩
 have c0 : C[0]? = some (.int .u32 (V q.a)) := by rw [hC]; rfl
 have c1 : C[1]? = some (.int .u32 (V q.b)) := by rw [hC]; rfl
 have c2 : C[2]? = some (.int .u32 (V q.c)) := by rw [hC]; rfl
 have c3 : C[3]? = some (.int .u32 (V q.d)) := by rw [hC]; rfl
 rw [← hC]
 have a1 : At ((w.alloc (.cells C 240)).alloc (.cells X 240)) w.heap.size C 240 := (at_new w C _).alloc _
 have r1 : At ((w.alloc (.cells C 240)).alloc (.cells X 240)) (w.heap.size + 1) X 240 := by
  have h := at_new (w.alloc (.cells C 240)) X 240
  simpa using h
 have b1 : Below w.heap.size w ((w.alloc (.cells C 240)).alloc (.cells X 240)) := ((Below.refl _ _).alloc (Nat.le_refl _) _).alloc (by simp) _
 have XS := zh hXs; have C0 := zh c0; have C1 := zh c1; have C2 := zh c2; have C3 := zh c3; have A1 := zh a1; have R1 := zh r1; have B1 := zh b1
 clear hXs c0 c1 c2 c3 a1 r1 b1 hX hC
 go_enter Tryz.func172, Tryz.ntmps172
 go_wp2_with fail
 generalize (w.alloc (.cells C 240)).alloc (.cells X 240) = w1 at *
 refine wp_region_plan_in (fun w' => Below w1.heap.size w1 w') (.take 0 (.take 1 (.take 2 (.take 3 (.take 4 (.take 5 (.take 6 (.take 7 (.take 8 (.take 9 (.take 10 (.take 11 .done)))))))))))) (by kernel_rfl) (by kernel_rfl) (by kernel_rfl) (Below.refl _ _).drew ?_
 refine plan_index_arr 240 62 4 _ _ w.heap.size 0 1 0 zr zr zr Mem.ev_a zr (by omega) Tryz.underlying240 (by kernel_rfl) (by decide) ?_
 (simp only [Act.put, Mem.pa, Mem.pb, Mem.pc])
 refine plan_cell 62 _ _ _ _ zr zr zr Mem.ev_a (fun w' hw' => ((A1.out.below hw' A1.out.lt).cell _).trans C0.out) Tryz.underlying62 zr ?_
 (simp only [Act.put, Mem.pa, Mem.pb, Mem.pc])
 refine plan_index_arr 240 62 4 _ _ w.heap.size 0 1 1 zr zr zr Mem.ev_a zr (by omega) Tryz.underlying240 (by kernel_rfl) (by decide) ?_
 (simp only [Act.put, Mem.pa, Mem.pb, Mem.pc])
 refine plan_cell 62 _ _ _ _ zr zr zr Mem.ev_a (fun w' hw' => ((A1.out.below hw' A1.out.lt).cell _).trans C1.out) Tryz.underlying62 zr ?_
 (simp only [Act.put, Mem.pa, Mem.pb, Mem.pc])
 refine plan_index_arr 240 62 4 _ _ w.heap.size 0 1 2 zr zr zr Mem.ev_a zr (by omega) Tryz.underlying240 (by kernel_rfl) (by decide) ?_
 (simp only [Act.put, Mem.pa, Mem.pb, Mem.pc])
 refine plan_cell 62 _ _ _ _ zr zr zr Mem.ev_a (fun w' hw' => ((A1.out.below hw' A1.out.lt).cell _).trans C2.out) Tryz.underlying62 zr ?_
 (simp only [Act.put, Mem.pa, Mem.pb, Mem.pc])
 refine plan_index_arr 240 62 4 _ _ w.heap.size 0 1 3 zr zr zr Mem.ev_a zr (by omega) Tryz.underlying240 (by kernel_rfl) (by decide) ?_
 (simp only [Act.put, Mem.pa, Mem.pb, Mem.pc])
 refine plan_cell 62 _ _ _ _ zr zr zr Mem.ev_a (fun w' hw' => ((A1.out.below hw' A1.out.lt).cell _).trans C3.out) Tryz.underlying62 zr ?_
 (simp only [Act.put, Mem.pa, Mem.pb, Mem.pc])
 (first | refine Mem.pm1 ?_ | refine Mem.pm2 ?_ | refine Mem.pt ?_ | refine Mem.pf ?_)
 (simp only [Act.put, Mem.pa, Mem.pb, Mem.pc])
 (first | refine Mem.pm1 ?_ | refine Mem.pm2 ?_ | refine Mem.pt ?_ | refine Mem.pf ?_)
 (simp only [Act.put, Mem.pa, Mem.pb, Mem.pc])
 (first | refine Mem.pm1 ?_ | refine Mem.pm2 ?_ | refine Mem.pt ?_ | refine Mem.pf ?_)
 (simp only [Act.put, Mem.pa, Mem.pb, Mem.pc])
 (first | refine Mem.pm1 ?_ | refine Mem.pm2 ?_ | refine Mem.pt ?_ | refine Mem.pf ?_)
 (simp only [Act.put, Mem.pa, Mem.pb, Mem.pc])
 refine plan_nil ?_
 have R2 : Hid (At w1.drew (w.heap.size + 1) X 240) := R1.out
 have B2 : Hid (Below w.heap.size w w1.drew) := B1.out.drew
 clear R1 B1 A1 hx
 generalize w1.drew = W at *
 go_wp2_with fail
 obtain ⟨a1, ha1⟩ : ∃ x : BitVec 32, x = q.a + q.b := ⟨_, rfl⟩
 rw [r_add q.a q.b, ← ha1]
 have Ha1 := zh ha1
 clear ha1
 rw [r_xor]
 refine (rot_any (q.d ^^^ a1) 16 _ (by decide)).mono ?_
 rintro e w' ⟨rfl, rfl⟩
 obtain ⟨d1, hd1⟩ : ∃ x : BitVec 32, x = (q.d ^^^ a1).rotateLeft 16 := ⟨_, rfl⟩
 rw [← hd1]
 have Hd1 := zh hd1
 clear hd1
 go_wp2_with fail
 obtain ⟨k1, hk1⟩ : ∃ x : BitVec 32, x = q.c + d1 := ⟨_, rfl⟩
 rw [r_add q.c d1, ← hk1]
 have Hk1 := zh hk1
 clear hk1
 rw [r_xor]
 refine (rot_any (q.b ^^^ k1) 12 _ (by decide)).mono ?_
 rintro e w' ⟨rfl, rfl⟩
 obtain ⟨b1, hb1⟩ : ∃ x : BitVec 32, x = (q.b ^^^ k1).rotateLeft 12 := ⟨_, rfl⟩
 rw [← hb1]
 have Hb1 := zh hb1
 clear hb1
 go_wp2_with fail
 obtain ⟨a2, ha2⟩ : ∃ x : BitVec 32, x = a1 + b1 := ⟨_, rfl⟩
 rw [r_add a1 b1, ← ha2]
 have Ha2 := zh ha2
 clear ha2
 rw [r_xor]
 refine (rot_any (d1 ^^^ a2) 8 _ (by decide)).mono ?_
 rintro e w' ⟨rfl, rfl⟩
 obtain ⟨d2, hd2⟩ : ∃ x : BitVec 32, x = (d1 ^^^ a2).rotateLeft 8 := ⟨_, rfl⟩
 rw [← hd2]
 have Hd2 := zh hd2
 clear hd2
 go_wp2_with fail
 obtain ⟨k2, hk2⟩ : ∃ x : BitVec 32, x = k1 + d2 := ⟨_, rfl⟩
 rw [r_add k1 d2, ← hk2]
 have Hk2 := zh hk2
 clear hk2
 rw [r_xor]
 refine (rot_any (b1 ^^^ k2) 7 _ (by decide)).mono ?_
 rintro e w' ⟨rfl, rfl⟩
 obtain ⟨b2, hb2⟩ : ∃ x : BitVec 32, x = (b1 ^^^ k2).rotateLeft 7 := ⟨_, rfl⟩
 rw [← hb2]
 have Hb2 := zh hb2
 clear hb2
 have hres : qOf (qr q) = (#[.int .u32 (V a2), .int .u32 (V b2), .int .u32 (V k2), .int .u32 (V d2)] : Array Value) := by rw [Hb2.out, Hk2.out, Hd2.out, Ha2.out, Hb1.out, Hk1.out, Hd1.out, Ha1.out]; rfl
 have HRES := zh hres
 clear hres
 go_wp2_with (first | (refine wpList_store_all zr 240 _ _ zr zr (w.heap.size + 1) (#[.int .u32 (V a2), .int .u32 (V b2), .int .u32 (V k2), .int .u32 (V d2)] : Array Value) zr zr (by exact infoQ) _ _ R2.out (by exact XS.out.symm) (u32s_one [a2, b2, k2, d2]) ?_))
 try simp only [Exit.inBlock, Exit.then]
 refine ret_row zr (w.heap.size + 1) 240 (#[.int .u32 (V a2), .int .u32 (V b2), .int .u32 (V k2), .int .u32 (V d2)] : Array Value) _ zr (R2.out.row _) Tryz.underlying240 zr (by exact infoQ) ?_
 exact ⟨by rw [HRES.out], below_row B2.out (by omega) _⟩
theorem o_or (t t2 : TypeId) (x y : Operand) (a b : BitVec 32) (w : World) : (do eqGuard .or t x y (.int .u32 (V a)) (.int .u32 (V b)); binOp .or t2 (.int .u32 (V a)) (.int .u32 (V b)) : Sem Value).run Tryz.prog w = .ok (.int .u32 (V (a ||| b))) w := by
 rw [← r_or]
 go_simp
theorem shl_val (a : BitVec 32) (k : Nat) : V a * 2 ^ k % 4294967296 = V (a <<< k) := by
 unfold V
 rw [BitVec.toNat_shiftLeft, Nat.shiftLeft_eq]
 show _ = ((a.toNat * 2 ^ k % 4294967296 : Nat) : Int)
 rw [Int.natCast_emod, Int.natCast_mul, Int.natCast_pow]; rfl
theorem o_shl (t t2 : TypeId) (x y : Operand) (a : BitVec 32) (k : Nat) (K : Int) (hK : K = (k : Int)) (hk : k < 32) (w : World) : (do eqGuard .shl t x y (.int .u32 (V a)) (.int .u64 K); binOp .shl t2 (.int .u32 (V a)) (.int .u64 K) : Sem Value).run Tryz.prog w = .ok (.int .u32 (V (a <<< k))) w := by
 subst hK
 have h0 := V_lo a
 rw [← shl_val]
 go_simp
 simp [IntKind.wrap, IntKind.bits, IntKind.signed]
theorem conv_w (x : BitVec 8) (w : World) : (convert 5 62 (.int .u8 (B8 x))).run Tryz.prog w = .ok (.int .u32 (V (x.setWidth 32))) w := by
 rw [conv_b]
 have e : B8 x = V (x.setWidth 32) := by
  unfold B8 V
  rw [BitVec.toNat_setWidth, Nat.mod_eq_of_lt (by have := x.isLt; omega)]
 rw [e]
theorem lew_or (x0 x1 x2 x3 : BitVec 8) : (x0.setWidth 32 ||| x1.setWidth 32 <<< 8 ||| x2.setWidth 32 <<< 16 ||| x3.setWidth 32 <<< 24 : BitVec 32) = x3.setWidth 32 <<< 24 ||| x2.setWidth 32 <<< 16 ||| x1.setWidth 32 <<< 8 ||| x0.setWidth 32 := by
 generalize x3.setWidth 32 <<< 24 = d; generalize x2.setWidth 32 <<< 16 = c; generalize x1.setWidth 32 <<< 8 = b; generalize x0.setWidth 32 = a
 rw [BitVec.or_comm _ d, BitVec.or_comm _ c, BitVec.or_comm a b, ← BitVec.or_assoc, ← BitVec.or_assoc]
set_option maxRecDepth 100000 in
set_option maxHeartbeats 1000000 in
theorem word_any (v : Value) (l : List (BitVec 8)) (w : World) (h : Sl w v l) (hl : 4 ≤ l.length) : Calls Tryz.prog 170 #[v] w fun e w' => e = .returned (.int .u32 (V (lew l 0))) ∧ Below w.heap.size w w' := by
 obtain ⟨a, cap, rfl, hcap, hr⟩ := h
 obtain ⟨bb, oo, rfl, hbb, hc⟩ := hr (by intro e; rw [e] at hl; simp at hl)
 obtain ⟨n, hn⟩ : ∃ n, n = l.length := ⟨_, rfl⟩
 obtain ⟨x0, h0⟩ : ∃ x, x = l.getD 0 0 := ⟨_, rfl⟩
 obtain ⟨x1, h1⟩ : ∃ x, x = l.getD 1 0 := ⟨_, rfl⟩
 obtain ⟨x2, h2⟩ : ∃ x, x = l.getD 2 0 := ⟨_, rfl⟩
 obtain ⟨x3, h3⟩ : ∃ x, x = l.getD 3 0 := ⟨_, rfl⟩
 have hv : (x0.setWidth 32 ||| x1.setWidth 32 <<< 8 ||| x2.setWidth 32 <<< 16 ||| x3.setWidth 32 <<< 24 : BitVec 32) = lew l 0 := by rw [h0, h1, h2, h3]; exact lew_or _ _ _ _
 have c0 : w.cell? ⟨bb, oo + 0, none⟩ = some (.int .u8 (B8 x0)) := by rw [h0]; exact hc 0 (by omega)
 have c1 : w.cell? ⟨bb, oo + 1, none⟩ = some (.int .u8 (B8 x1)) := by rw [h1]; exact hc 1 (by omega)
 have c2 : w.cell? ⟨bb, oo + 2, none⟩ = some (.int .u8 (B8 x2)) := by rw [h2]; exact hc 2 (by omega)
 have c3 : w.cell? ⟨bb, oo + 3, none⟩ = some (.int .u8 (B8 x3)) := by rw [h3]; exact hc 3 (by omega)
 have k0 (w' : World) (hw : Below w.heap.size w w') (k : Nat) : w'.cell? ⟨bb, oo + k, none⟩ = w.cell? ⟨bb, oo + k, none⟩ := hw.cell (p := ⟨bb, oo + k, none⟩) hbb
 rw [← hn] at hl ⊢
 have HV := zh hv; have C0 := zh c0; have C1 := zh c1; have C2 := zh c2; have C3 := zh c3; have K0 := zh k0
 clear hv c0 c1 c2 c3 k0 hc hr h0 h1 h2 h3 hn hcap
 go_enter Tryz.func170, Tryz.ntmps170
 go_wp2_with fail
 refine wp_region_plan_in (fun w' => Below w.heap.size w w') (.take 0 (.take 1 (.take 2 (.take 3 (.take 4 (.take 5 (.take 6 (.take 7 (.take 8 (.take 9 (.take 10 (.take 11 (.take 12 (.take 13 (.take 14 (.take 15 (.take 16 (.take 17 (.take 18 (.take 19 (.take 20 (.take 21 (.take 22 .done))))))))))))))))))))))) (by kernel_rfl) (by kernel_rfl) (by kernel_rfl) (Below.refl _ _).drew ?_
 (first | refine Mem.pm1 ?_ | refine Mem.pm2 ?_ | refine Mem.pt ?_ | refine Mem.pf ?_)
 (simp only [Act.put, Mem.pa, Mem.pb, Mem.pc])
 refine plan_index 36 5 _ _ bb oo n cap 0 zr zr zr Mem.ev_a zr (by omega) Tryz.underlying36 (by kernel_rfl) ?_
 (simp only [Act.put, Mem.pa, Mem.pb, Mem.pc])
 refine plan_cell 5 _ _ _ _ zr zr zr Mem.ev_a (fun w' hw' => (K0.out w' hw' 0).trans C0.out) Tryz.underlying5 zr ?_
 (simp only [Act.put, Mem.pa, Mem.pb, Mem.pc])
 refine plan_conv _ _ _ _ _ zr zr zr Mem.ev_a (fun wx => conv_w x0 wx) ?_
 (simp only [Act.put, Mem.pa, Mem.pb, Mem.pc])
 (first | refine Mem.pm1 ?_ | refine Mem.pm2 ?_ | refine Mem.pt ?_ | refine Mem.pf ?_)
 (simp only [Act.put, Mem.pa, Mem.pb, Mem.pc])
 refine plan_index 36 5 _ _ bb oo n cap 1 zr zr zr Mem.ev_a zr (by omega) Tryz.underlying36 (by kernel_rfl) ?_
 (simp only [Act.put, Mem.pa, Mem.pb, Mem.pc])
 refine plan_cell 5 _ _ _ _ zr zr zr Mem.ev_a (fun w' hw' => (K0.out w' hw' 1).trans C1.out) Tryz.underlying5 zr ?_
 (simp only [Act.put, Mem.pa, Mem.pb, Mem.pc])
 refine plan_conv _ _ _ _ _ zr zr zr Mem.ev_a (fun wx => conv_w x1 wx) ?_
 (simp only [Act.put, Mem.pa, Mem.pb, Mem.pc])
 refine plan_bin _ _ _ _ _ _ _ _ zr zr zr Mem.ev_a Mem.ev_a (fun wx => o_shl _ _ _ _ _ 8 8 zr (by decide) wx) ?_
 (simp only [Act.put, Mem.pa, Mem.pb, Mem.pc])
 refine plan_bin _ _ _ _ _ _ _ _ zr zr zr Mem.ev_a Mem.ev_a (fun wx => o_or _ _ _ _ _ _ wx) ?_
 (simp only [Act.put, Mem.pa, Mem.pb, Mem.pc])
 (first | refine Mem.pm1 ?_ | refine Mem.pm2 ?_ | refine Mem.pt ?_ | refine Mem.pf ?_)
 (simp only [Act.put, Mem.pa, Mem.pb, Mem.pc])
 refine plan_index 36 5 _ _ bb oo n cap 2 zr zr zr Mem.ev_a zr (by omega) Tryz.underlying36 (by kernel_rfl) ?_
 (simp only [Act.put, Mem.pa, Mem.pb, Mem.pc])
 refine plan_cell 5 _ _ _ _ zr zr zr Mem.ev_a (fun w' hw' => (K0.out w' hw' 2).trans C2.out) Tryz.underlying5 zr ?_
 (simp only [Act.put, Mem.pa, Mem.pb, Mem.pc])
 refine plan_conv _ _ _ _ _ zr zr zr Mem.ev_a (fun wx => conv_w x2 wx) ?_
 (simp only [Act.put, Mem.pa, Mem.pb, Mem.pc])
 refine plan_bin _ _ _ _ _ _ _ _ zr zr zr Mem.ev_a Mem.ev_a (fun wx => o_shl _ _ _ _ _ 16 16 zr (by decide) wx) ?_
 (simp only [Act.put, Mem.pa, Mem.pb, Mem.pc])
 refine plan_bin _ _ _ _ _ _ _ _ zr zr zr Mem.ev_a Mem.ev_a (fun wx => o_or _ _ _ _ _ _ wx) ?_
 (simp only [Act.put, Mem.pa, Mem.pb, Mem.pc])
 (first | refine Mem.pm1 ?_ | refine Mem.pm2 ?_ | refine Mem.pt ?_ | refine Mem.pf ?_)
 (simp only [Act.put, Mem.pa, Mem.pb, Mem.pc])
 refine plan_index 36 5 _ _ bb oo n cap 3 zr zr zr Mem.ev_a zr (by omega) Tryz.underlying36 (by kernel_rfl) ?_
 (simp only [Act.put, Mem.pa, Mem.pb, Mem.pc])
 refine plan_cell 5 _ _ _ _ zr zr zr Mem.ev_a (fun w' hw' => (K0.out w' hw' 3).trans C3.out) Tryz.underlying5 zr ?_
 (simp only [Act.put, Mem.pa, Mem.pb, Mem.pc])
 refine plan_conv _ _ _ _ _ zr zr zr Mem.ev_a (fun wx => conv_w x3 wx) ?_
 (simp only [Act.put, Mem.pa, Mem.pb, Mem.pc])
 refine plan_bin _ _ _ _ _ _ _ _ zr zr zr Mem.ev_a Mem.ev_a (fun wx => o_shl _ _ _ _ _ 24 24 zr (by decide) wx) ?_
 (simp only [Act.put, Mem.pa, Mem.pb, Mem.pc])
 refine plan_bin _ _ _ _ _ _ _ _ zr zr zr Mem.ev_a Mem.ev_a (fun wx => o_or _ _ _ _ _ _ wx) ?_
 (simp only [Act.put, Mem.pa, Mem.pb, Mem.pc])
 (first | refine Mem.pm1 ?_ | refine Mem.pm2 ?_ | refine Mem.pt ?_ | refine Mem.pf ?_)
 (simp only [Act.put, Mem.pa, Mem.pb, Mem.pc])
 refine plan_nil ?_
 go_wp2_with fail
 go_ret
 exact ⟨by rw [← HV.out]; rfl, (Below.refl _ _).drew⟩
def ints (l : List Nat) : List Value := l.map fun (k : Nat) => .int .i64 (k : Int)
end Sha
end Go.Proofs.YtahcjnganedbiaaGreatDoor
