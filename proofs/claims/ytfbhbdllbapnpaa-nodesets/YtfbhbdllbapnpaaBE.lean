/- The program's Lay of a reference. The program's Parse of a reference. The program's reader of a node's page: a struct of its references. The program's reader of one place's page; Get. The program's Lay of a node's page: the count, the references put behind it, filled up. The program's Parse and Set of a node's page. The program's functions keep the contracts of layer 13. -/
import Derived.Test.YtfbhbdllbapnpaaBC
import Derived.Test.YtfbhbdllbapnpaaBB
import Derived.Test.YtfbhbdllbapnpaaBA
import Derived.Test.YtfbhbdllbapnpaaBD
namespace Go.Proofs.Ytfbhbdllbapnpaa
namespace Sha
open Go.RowKit Mem
theorem nb1_int (z : Int) (m : Nat) (hm : (m : Int) = z % 18446744073709551616) : nbytes m 1 = [BitVec.ofInt 8 z] := by
  have e : nbyte m 0 = BitVec.ofInt 8 z := by
    apply BitVec.eq_of_toNat_eq
    unfold nbyte
    rw [BitVec.toNat_ofNat, BitVec.toNat_ofInt]
    omega
  simp [nbytes, List.range_succ, e]
theorem nb4_le4 (x : BitVec 32) : nbytes x.toNat 4 = le4 x := by
  have e : ∀ i, nbyte x.toNat i = wb x (8 * i) := fun i => by
    apply BitVec.eq_of_toNat_eq
    unfold nbyte wb
    rw [BitVec.toNat_ofNat, BitVec.toNat_setWidth, BitVec.toNat_ushiftRight, Nat.shiftRight_eq_div_pow, Nat.pow_mul]
  simp [nbytes, le4, List.range_succ, e]
theorem conv_iu64 (z : Int) (m : Nat) (hm : (m : Int) = z % 18446744073709551616) (w : World) : (convert 3 55 (.int .i64 z)).run Try.prog w = .ok (.int .u64 (m : Int)) w := by
  have h2 : IntKind.u64.wrap z = (m : Int) := by rw [IntKind.wrap_u64, hm]
  go_simp
theorem conv_u3264 (x : BitVec 32) (w : World) : (convert 34 55 (.int .u32 (V x))).run Try.prog w = .ok (.int .u64 ((x.toNat : Nat) : Int)) w := by
  have hx := x.isLt
  have h2 : IntKind.u64.wrap (V x) = ((x.toNat : Nat) : Int) := by
    rw [IntKind.wrap_u64]
    show (x.toNat : Int) % _ = _
    omega
  go_simp
set_option maxRecDepth 100000 in
set_option maxHeartbeats 4000000 in
theorem play9_any (r : RefV) (hr : r.Wf) (w : World) : Calls Try.prog 22 #[.agg (refC r)] w (RSEnd w (layRf r)) := by
  have r0 := ref0 r
  have r1 := ref1 r
  have an := at_new w (refC r) 42
  have bn : Below w.heap.size w (w.alloc (.cells (refC r) 42)) := (Below.refl _ _).alloc (Nat.le_refl _) _
  have sd := fun (wx : World) (g : Nat) (h : At wx g (refC r) 42) => sl_dg h hr
  have hdl := hr.dg
  obtain ⟨m, hm⟩ : ∃ m : Nat, (m : Int) = r.pl % 18446744073709551616 := ⟨(r.pl % 18446744073709551616).toNat, by omega⟩
  have hml : m < 18446744073709551616 := by omega
  have cv0 := fun wx => conv_iu64 r.pl m hm wx
  have cv1 := fun wx => conv_u3264 r.ep wx
  obtain ⟨M1, hM1⟩ : ∃ M, M = ([] : List (BitVec 8)) ++ nbytes m 1 := ⟨_, rfl⟩
  have ln1 : M1.length = 1 := by rw [hM1, List.length_append, nbytes_length]; rfl
  have nu1 : ∀ v wx, Sl wx v ([] : List (BitVec 8)) → Calls Try.prog 20 #[v, .int .u64 (m : Int), .int .i64 1] wx (SEnd wx M1) := fun v wx hs => by rw [hM1]; exact num1_any _ _ v wx hs (by decide) hml
  obtain ⟨M2, hM2⟩ : ∃ M, M = M1 ++ nbytes r.ep.toNat 4 := ⟨_, rfl⟩
  have ln2 : M2.length = 5 := by rw [hM2, List.length_append, nbytes_length, ln1]
  have nu2 : ∀ v wx, Sl wx v M1 → Calls Try.prog 20 #[v, .int .u64 ((r.ep.toNat : Nat) : Int), .int .i64 4] wx (SEnd wx M2) := fun v wx hs => by rw [hM2]; exact num4_any _ _ v wx hs (by rw [ln1]; decide) (by have := r.ep.isLt; omega)
  have hlay : M2 ++ r.dg = layRf r := by rw [hM2, hM1, nb1_int r.pl m hm, nb4_le4, layRf, List.nil_append]
  obtain ⟨M, hM⟩ : ∃ M, M = refC r := ⟨_, rfl⟩
  rw [← hM] at r0 r1 an bn sd ⊢
  have c0 : (w.alloc (.cells M 42)).cell? ⟨w.heap.size, 0, none⟩ = some (.int .i64 r.pl) := (an.cell 0).trans r0
  have AN := Lib.hid an; have BN := Lib.hid bn; have SD := Lib.hid sd; have DL := Lib.hid hdl; have CV0 := Lib.hid cv0; have CV1 := Lib.hid cv1; have LN1 := Lib.hid ln1; have NU1 := Lib.hid nu1; have LN2 := Lib.hid ln2; have NU2 := Lib.hid nu2; have HL := Lib.hid hlay; have R1 := Lib.hid r1
  clear r0 r1 an bn sd hdl cv0 cv1 ln1 nu1 ln2 nu2 hlay hM hM1 hM2 hm hml hr
  obtain ⟨pl, hpl⟩ : ∃ pl, pl = r.pl := ⟨_, rfl⟩
  rw [← hpl] at c0 CV0
  obtain ⟨ep, hep⟩ : ∃ ep, ep = r.ep := ⟨_, rfl⟩
  rw [← hep] at R1 CV1 NU2
  clear hpl hep
  obtain ⟨e4, he4⟩ : ∃ e4, e4 = ep.toNat := ⟨_, rfl⟩
  rw [← he4] at CV1 NU2
  clear he4
  go_enter Try.func22, Try.ntmps22
  go_upto_region 1 with fail
  obtain ⟨g0, hg0⟩ : ∃ g, g = w.heap.size := ⟨_, rfl⟩
  rw [← hg0] at AN c0 ⊢
  have HG := Lib.hid hg0
  clear hg0
  generalize w.alloc (.cells M 42) = w1 at *
  go_wp2_with (refine wpList_conv (by rfl) _ _ _ _ (.int .u64 (m : Int)) (by rfl) (by rfl) CV0.out ?_)
  refine (NU1.out _ _ (sl_none _)).mono ?_
  rintro e w3 ⟨g, rfl, ha, hg, hb⟩
  have B3 : Hid (Below w1.heap.size w1 w3) := Lib.hid hb
  have A3 := Lib.hid (AN.out.below hb AN.out.lt)
  have S3 := Lib.hid (at_sl ha rfl)
  rw [LN1.out]
  rw [LN1.out] at S3
  clear c0 ha hg hb
  have cc : w3.cell? ⟨g0, 1, none⟩ = some (.int .u32 (V ep)) := (A3.out.cell 1).trans R1.out
  go_wp2_with (refine wpList_conv (by rfl) _ _ _ _ (.int .u64 (e4 : Int)) (by rfl) (by rfl) CV1.out ?_)
  refine (NU2.out _ _ S3.out).mono ?_
  rintro e w4 ⟨g4, rfl, ha, hg, hb⟩
  have B4 : Hid (Below w1.heap.size w1 w4) := Lib.hid (B3.out.trans (hb.mono B3.out.size))
  have A4 := Lib.hid (A3.out.below hb A3.out.lt)
  have O4 : Hid (OwnB w4 w1.heap.size (.slice (some ⟨g4, 0, none⟩) 5 5) M2) := Lib.hid (by have h := own_fulls ha (Nat.le_trans B3.out.size hg) (by rw [LN2.out]; decide); rw [LN2.out] at h; exact h)
  rw [LN2.out]
  clear cc ha hg hb S3
  go_wp2_with (first
    | (refine wpList_slice_arr (by rfl) 35 _ (by rfl) 32 5 g0 2 (by rfl) Try.underlying35 infoB ?_)
    | (at_builtin; go_loud (refine wpList_append_bytes (by rfl) _ _ (by rfl) w1.heap.size (.slice (some ⟨g4, 0, none⟩) 5 5) (.slice (some ⟨g0, 2, none⟩) 32 32) M2 r.dg (by rfl) O4.out (by rfl) (SD.out w4 g0 A4.out) (by rw [LN2.out, DL.out]; decide) B4.out.size ?_); intro v9 w9 ho9 _ hb9; have O9 := Lib.hid ho9; have B9 := Lib.hid (B4.out.trans hb9); clear ho9 hb9))
  go_ret
  exact ⟨_, rfl, by rw [← HL.out]; exact O9.out.sl, BN.out.trans (B9.out.mono BN.out.size)⟩
end Sha
end Go.Proofs.Ytfbhbdllbapnpaa
namespace Go.Proofs.Ytfbhbdllbapnpaa
namespace Sha
open Go.RowKit Mem
/-- Bytes copied over 32 bytes 0: all of them, or none. -/
def padR (x : List (BitVec 8)) : List (BitVec 8) := if x = [] then List.replicate 32 0 else x
theorem padR_len (x : List (BitVec 8)) (h : x = [] ∨ x.length = 32) : (padR x).length = 32 := by
  unfold padR
  split
  · rfl
  · rcases h with h | h
    · rename_i h2; exact absurd h h2
    · exact h
theorem pref_set0 (r : RefV) (z : Int) : (refC r).setIfInBounds 0 (.int .i64 z) = refC { r with pl := z } := by simp [refC, refL]
theorem pref_set1 (r : RefV) (n : Nat) (hn : n ≤ 4294967295) : (refC r).setIfInBounds 1 (.int .u32 (n : Int)) = refC { r with ep := BitVec.ofNat 32 n } := by
  have e : V (BitVec.ofNat 32 n) = (n : Int) := by
    show ((BitVec.ofNat 32 n).toNat : Int) = _
    rw [BitVec.toNat_ofNat]; omega
  simp [refC, refL, e]
theorem pref_copy (r : RefV) (x : List (BitVec 8)) (h : r.dg = List.replicate 32 0) : (if x = [] then refC r else ((refC r).toList.take 2 ++ u8s x ++ (refC r).toList.drop (2 + 32)).toArray) = refC { r with dg := padR x } := by
  unfold padR
  split
  · rw [← h]
  · have e : (u8s r.dg).length = 32 := by rw [u8s_length, h]; rfl
    unfold refC refL
    congr 1
    rw [take_mid _ _ 2 rfl, List.drop_eq_nil_of_le (by rw [List.length_append, e]; exact Nat.le_refl _), List.append_nil]
theorem leN_lew (b : List (BitVec 8)) (h : 4 ≤ b.length) : leN (b.take 4) = (lew b 0).toNat := by
  match b, h with
  | x0 :: x1 :: x2 :: x3 :: t, _ =>
    have e := nb4_le4 (lew (x0 :: x1 :: x2 :: x3 :: t) 0)
    rw [le4_lew] at e
    obtain ⟨n, hn⟩ : ∃ n, n = (lew (x0 :: x1 :: x2 :: x3 :: t) 0).toNat := ⟨_, rfl⟩
    have hlt := (lew (x0 :: x1 :: x2 :: x3 :: t) 0).isLt
    rw [← hn] at e hlt ⊢
    show leN [x0, x1, x2, x3] = n
    rw [← e]
    simp only [nbytes, List.range_succ, List.range_zero, List.nil_append, List.map_cons, List.map_nil, List.cons_append, leN, nbyte, BitVec.toNat_ofNat]
    omega
/-- What is read of 37 bytes. -/
theorem parse_spec (b : List (BitVec 8)) (h : b.length = 37) (n1 n2 e1 e2 : Nat) (b1 b2 : List (BitVec 8)) (r3 : Rd3) (h1 : (n1, b1, e1) = rdNum b 0 1 1) (h2 : (n2, b2, e2) = rdNum b1 e1 4 4294967295) (h3 : r3 = rdTake b2 e2 32) :
    (r3.e = 0 ∧ parseRf b = (⟨(n1 : Int), BitVec.ofNat 32 n2, padR r3.x⟩, 0)) ∨ (r3.e = 3 ∧ parseRf b = (zref, 1)) := by
  match b, h with
  | x0 :: t, h =>
    have ht : t.length = 36 := by simpa using h
    rw [rdNum_ok _ 1 1 (by simp)] at h1
    have e1' : leN ((x0 :: t).take 1) = x0.toNat := by simp [leN]
    rw [e1'] at h1
    by_cases hx : 1 < x0.toNat
    · rw [if_pos hx] at h1
      have ha : b1 = t := congrArg (fun p : Nat × List (BitVec 8) × Nat => p.2.1) h1
      have hb : e1 = 3 := congrArg (fun p : Nat × List (BitVec 8) × Nat => p.2.2) h1
      rw [hb, rdNum_bad _ 3 4 _ (by decide)] at h2
      have hd : e2 = 3 := congrArg (fun p : Nat × List (BitVec 8) × Nat => p.2.2) h2
      rw [hd, rdTake_bad _ 3 32 (by decide)] at h3
      exact .inr ⟨by rw [h3], by unfold parseRf; rw [if_pos (.inr (by simpa using hx))]⟩
    · rw [if_neg hx] at h1
      have h0 : n1 = x0.toNat := congrArg (fun p : Nat × List (BitVec 8) × Nat => p.1) h1
      have ha : b1 = t := congrArg (fun p : Nat × List (BitVec 8) × Nat => p.2.1) h1
      have hb : e1 = 0 := congrArg (fun p : Nat × List (BitVec 8) × Nat => p.2.2) h1
      rw [hb, ha, rdNum_ok _ 4 4294967295 (by omega), leN_lew t (by omega), if_neg (by have := (lew t 0).isLt; omega)] at h2
      have k0 : n2 = (lew t 0).toNat := congrArg (fun p : Nat × List (BitVec 8) × Nat => p.1) h2
      have ka : b2 = t.drop 4 := congrArg (fun p : Nat × List (BitVec 8) × Nat => p.2.1) h2
      have kb : e2 = 0 := congrArg (fun p : Nat × List (BitVec 8) × Nat => p.2.2) h2
      rw [kb, ka, rdTake_ok _ 32 (by rw [List.length_drop]; omega)] at h3
      rw [h3]
      refine .inl ⟨rfl, ?_⟩
      unfold parseRf
      rw [if_neg (by simp only [List.getD_cons_zero, h]; omega)]
      unfold rfOf padR
      have e5 : (t.drop 4).take 32 = t.drop 4 := List.take_of_length_le (by rw [List.length_drop]; omega)
      simp only
      rw [e5, if_neg (fun e => by have := congrArg List.length e; rw [List.length_drop, ht, List.length_nil] at this; omega)]
      have e6 : BitVec.ofNat 32 (lew t 0).toNat = lew t 0 := by simp
      rw [h0, k0, e6]
      rfl
/-- Where Parse stands: the reader at br, the result, the reference that is filled at bx. -/
structure PInv9 (w : World) (br bx : Nat) (Z C : Array Value) (b : List (BitVec 8)) (e : Nat) (W : World) : Prop where
  r : RPk W br b e
  ar : At W w.heap.size Z 42
  ag : At W bx C 42
  l : Below w.heap.size w W
section
variable {w W W' : World} {br bx : Nat} {Z C C' : Array Value} {b b' : List (BitVec 8)} {e e' : Nat}
theorem PInv9.call (h : PInv9 w br bx Z C b e W) (h1 : w.heap.size < br) (h2 : br < bx) (hp : PkEnd RPk W br b' e' W') : PInv9 w br bx Z C b' e' W' :=
  ⟨hp.r, h.ar.but hp.o (by omega), h.ag.but hp.o (by omega), hp.k _ _ h.l (by omega)⟩
theorem PInv9.store (h : PInv9 w br bx Z C b e W) (h1 : w.heap.size < br) (h2 : br < bx) (ha : At W' bx C' 42) (ho : ∀ k, k ≠ bx → W'.heap[k]? = W.heap[k]?) (hk : ∀ B x, Below B x W → B ≤ bx → Below B x W') : PInv9 w br bx Z C' b e W' := by
  have hs : W.heap.size ≤ W'.heap.size := (hk _ _ (Below.refl bx W) (Nat.le_refl _)).size
  have hb : But bx W W' := ⟨hs, fun k _ hne => ho k hne⟩
  exact ⟨h.r.above hb h2, h.ar.but hb (by omega), ha, hk _ _ h.l (by omega)⟩
theorem PInv9.drew (h : PInv9 w br bx Z C b e W) : PInv9 w br bx Z C b e W.drew :=
  ⟨h.r.below (Below.refl _ _).drew, h.ar.below (Below.refl _ _).drew h.ar.lt, h.ag.below (Below.refl _ _).drew h.ag.lt, h.l.drew⟩
end
theorem conv_ui9 (x : Nat) (_h : x < 65536) (w : World) : (convert 55 3 (.int .u64 (x : Int))).run Try.prog w = .ok (.int .i64 (x : Int)) w := by
  have h2 : IntKind.i64.wrap (x : Int) = (x : Int) := by simp [IntKind.wrap, IntKind.bits, IntKind.signed]; omega
  go_simp
theorem conv_u329 (x : Nat) (_h : x < 4294967296) (w : World) : (convert 55 34 (.int .u64 (x : Int))).run Try.prog w = .ok (.int .u32 (x : Int)) w := by
  have h2 : IntKind.u32.wrap (x : Int) = (x : Int) := by rw [IntKind.wrap_u32]; omega
  go_simp
set_option maxRecDepth 100000 in
set_option maxHeartbeats 4000000 in
theorem pparse9_any (b : List (BitVec 8)) (v : Value) (w : World) (hv : Sl w v b) (_hb : b.length ≤ 1000) :
    Calls Try.prog 33 #[v] w fun e w' => e = .returned (.tuple #[.agg (refC (parseRf b).1), .int .i64 (parseRf b).2]) ∧ Below w.heap.size w w' := by
  obtain ⟨Z, hZ⟩ : ∃ Z, Z = refC zref := ⟨_, rfl⟩
  have zs : Z.size = 34 := by rw [hZ]; exact refC_size zref_wf
  have zo : Z.all (·.oneCell') = true := by rw [hZ]; exact refC_one _
  have hx : ∀ w, (zeroValue 42).run Try.prog w = .ok (.agg Z) w := by rw [hZ]; exact zeroRfP
  have bn : ∀ w, (Instr.build 42 #[]).run Try.prog w = .ok (.agg Z) w := by rw [hZ]; exact buildPf0
  have az := at_new w Z 42
  have bz : Below w.heap.size w (w.alloc (.cells Z 42)) := (Below.refl _ _).alloc (Nat.le_refl _) _
  have hv1 := hv.below bz
  by_cases h37 : b.length = 37
  · have hrd := fun wx h => read_any b v wx h (by omega)
    obtain ⟨r1, hr1⟩ : ∃ r, r = rdNum b 0 1 1 := ⟨_, rfl⟩
    have lt1 : r1.1 ≤ 1 := by rw [hr1]; exact rdNum_le _ _ _ _
    have ll1 : r1.2.1.length ≤ 8000 := by rw [hr1]; exact Nat.le_trans (rdNum_len _ _ _ _) (by omega)
    have nu1 : ∀ br wx, RPk wx br b 0 → Calls Try.prog 32 #[rp br, .int .i64 1, .int .u64 1] wx fun o w' => o = .returned (.int .u64 ((r1.1 : Nat) : Int)) ∧ PkEnd RPk wx br r1.2.1 r1.2.2 w' := fun br wx h => by rw [hr1]; exact pnumget_any b 0 1 1 br wx h (by omega) (by omega)
    obtain ⟨n1, b1, e1⟩ := r1
    simp only at lt1 ll1 nu1
    obtain ⟨r2, hr2⟩ : ∃ r, r = rdNum b1 e1 4 4294967295 := ⟨_, rfl⟩
    have lt2 : r2.1 ≤ 4294967295 := by rw [hr2]; exact rdNum_le _ _ _ _
    have ll2 : r2.2.1.length ≤ 8000 := by rw [hr2]; exact Nat.le_trans (rdNum_len _ _ _ _) ll1
    have nu2 : ∀ br wx, RPk wx br b1 e1 → Calls Try.prog 32 #[rp br, .int .i64 4, .int .u64 4294967295] wx fun o w' => o = .returned (.int .u64 ((r2.1 : Nat) : Int)) ∧ PkEnd RPk wx br r2.2.1 r2.2.2 w' := fun br wx h => by rw [hr2]; exact pnumget_any b1 e1 4 4294967295 br wx h ll1 (by omega)
    obtain ⟨n2, b2, e2⟩ := r2
    simp only at lt2 ll2 nu2
    obtain ⟨r3, hr3⟩ : ∃ r, r = rdTake b2 e2 32 := ⟨_, rfl⟩
    have lt3 : r3.x = [] ∨ r3.x.length = 32 := by rw [hr3]; exact rdTake_x _ _ _
    have nu3 : ∀ br wx, RPk wx br b2 e2 → Calls Try.prog 34 #[rp br, .int .i64 32] wx fun o w' => ∃ v, o = .returned v ∧ Sl w' v r3.x ∧ PkEnd RPk wx br r3.b r3.e w' := fun br wx h => by rw [hr3]; exact pbytes_any b2 e2 32 br wx h ll2 (by decide) (by decide)
    have hsp := parse_spec b h37 n1 n2 e1 e2 b1 b2 r3 hr1 hr2 hr3
    obtain ⟨C1, hC1⟩ : ∃ C, C = refC ⟨(n1 : Int), 0, List.replicate 32 0⟩ := ⟨_, rfl⟩
    obtain ⟨C2, hC2⟩ : ∃ C, C = refC ⟨(n1 : Int), BitVec.ofNat 32 n2, List.replicate 32 0⟩ := ⟨_, rfl⟩
    obtain ⟨C3, hC3⟩ : ∃ C, C = refC ⟨(n1 : Int), BitVec.ofNat 32 n2, padR r3.x⟩ := ⟨_, rfl⟩
    have q1 : Z.setIfInBounds 0 (.int .i64 (n1 : Int)) = C1 := by rw [hZ, hC1]; exact pref_set0 zref _
    have q2 : C1.setIfInBounds 1 (.int .u32 (n2 : Int)) = C2 := by rw [hC1, hC2]; exact pref_set1 _ n2 lt2
    have q3 : (if r3.x = [] then C2 else (C2.toList.take 2 ++ u8s r3.x ++ C2.toList.drop (2 + 32)).toArray) = C3 := by rw [hC2, hC3]; exact pref_copy _ r3.x rfl
    have s1 : C1.size = 34 := by rw [hC1]; exact refC_size ⟨by show _ ≤ (n1 : Int); omega, by show (n1 : Int) ≤ _; omega, by simp⟩
    have s2 : C2.size = 34 := by rw [hC2]; exact refC_size ⟨by show _ ≤ (n1 : Int); omega, by show (n1 : Int) ≤ _; omega, by simp⟩
    have s3 : C3.size = 34 := by rw [hC3]; exact refC_size ⟨by show _ ≤ (n1 : Int); omega, by show (n1 : Int) ≤ _; omega, padR_len _ lt3⟩
    have o3 : C3.all (·.oneCell') = true := by rw [hC3]; exact refC_one _
    obtain ⟨x3, b3, e3⟩ := r3
    simp only at lt3 nu3 q3 hsp
    obtain ⟨a0, c0, rfl⟩ := sl_inv hv
    rw [h37] at hv1 hrd ⊢
    have hsp2 : (e3 = 0 ∧ refC (parseRf b).1 = C3 ∧ (parseRf b).2 = 0) ∨ (e3 = 3 ∧ refC (parseRf b).1 = Z ∧ (parseRf b).2 = 1) := by
      rcases hsp with ⟨h1, h2⟩ | ⟨h1, h2⟩
      · exact .inl ⟨h1, by rw [h2, hC3], by rw [h2]⟩
      · exact .inr ⟨h1, by rw [h2, hZ], by rw [h2]⟩
    obtain ⟨PR, hPR⟩ : ∃ PR, PR = parseRf b := ⟨_, rfl⟩
    rw [← hPR] at hsp2 ⊢
    have SP := Lib.hid hsp2; have ZS := Lib.hid zs; have ZO := Lib.hid zo; have BN := Lib.hid bn; have AZ := Lib.hid az; have BZ := Lib.hid bz; have HV := Lib.hid hv1; have RD := Lib.hid hrd; have NU1 := Lib.hid nu1; have NU2 := Lib.hid nu2; have NU3 := Lib.hid nu3; have LT3 := Lib.hid lt3; have Q1 := Lib.hid q1; have Q2 := Lib.hid q2; have Q3 := Lib.hid q3; have S1 := Lib.hid s1; have S2 := Lib.hid s2; have S3 := Lib.hid s3; have O3 := Lib.hid o3
    clear hsp hsp2 zs zo bn az bz hv1 hv hrd nu1 nu2 nu3 lt3 q1 q2 q3 s1 s2 s3 o3 hC1 hC2 hC3 hZ hr1 hr2 hr3 ll1 ll2 _hb h37 hPR
    have pe := fun br wx (h : RPk wx br b3 e3) => perr0_any b3 e3 br wx h
    have PE := Lib.hid pe
    clear pe
    go_enter Try.func33, Try.ntmps33
    go_wp2_with fail
    refine (RD.out _ HV.out).mono ?_
    rintro e w2 ⟨br, rfl, hbr, hr2, hb2⟩
    have hbr1 : w.heap.size < br := by have h := hbr; simp at h; omega
    have hbx : br < w2.heap.size := hr2.lt
    have I0 : Hid (PInv9 w br w2.heap.size Z Z b 0 (w2.alloc (.cells Z 42))) := Lib.hid ⟨hr2.below ((Below.refl _ _).alloc (Nat.le_refl _) _), (AZ.out.below hb2 AZ.out.lt).alloc _, at_new w2 Z _, (BZ.out.trans (hb2.mono BZ.out.size)).alloc (Nat.le_trans BZ.out.size hb2.size) _⟩
    have HB1 := Lib.hid hbr1; have HB2 := Lib.hid hbx
    clear hbr hr2 hb2 RD HV AZ BZ hbr1 hbx
    go_wp2_with fail
    clear hx
    refine (NU1.out br _ I0.out.r).mono ?_
    rintro e w3 ⟨rfl, hp⟩
    have J1 := Lib.hid (I0.out.call HB1.out HB2.out hp)
    clear hp I0
    go_wp2_with (first
      | (refine wpList_conv (by rfl) _ _ _ _ (.int .i64 (n1 : Int)) (by rfl) (by rfl) (fun wx => conv_ui9 n1 (by omega) wx) ?_)
      | (refine Mem.wpList_store_one (by rfl) 3 _ _ (by rfl) (by rfl) w2.heap.size 0 (.int .i64 (n1 : Int)) (by rfl) (by rfl) (by rfl) (by kernel_rfl) Z 42 J1.out.ag (by rw [ZS.out]; decide) ?_; intro w4 ha ho hk; rw [Q1.out] at ha; have I1 := Lib.hid (J1.out.store HB1.out HB2.out ha ho hk); clear ha ho hk))
    refine (NU2.out br _ I1.out.r).mono ?_
    rintro e w5 ⟨rfl, hp⟩
    have J2 := Lib.hid (I1.out.call HB1.out HB2.out hp)
    clear hp I1 J1
    go_wp2_with (first
      | (refine wpList_conv (by rfl) _ _ _ _ (.int .u32 (n2 : Int)) (by rfl) (by rfl) (fun wx => conv_u329 n2 (by omega) wx) ?_)
      | (refine Mem.wpList_store_one (by rfl) 34 _ _ (by rfl) (by rfl) w2.heap.size 1 (.int .u32 (n2 : Int)) (by rfl) (by rfl) (by rfl) (by kernel_rfl) C1 42 J2.out.ag (by rw [S1.out]; decide) ?_; intro w6 ha ho hk; rw [Q2.out] at ha; have I2 := Lib.hid (J2.out.store HB1.out HB2.out ha ho hk); clear ha ho hk))
    refine wp_region_plan_in (fun _ => True) (.take 0 (.take 1 (.take 2 (.sole 3 (.sole 4 .done))))) (by kernel_rfl) (by kernel_rfl) (by kernel_rfl) trivial ?_
    refine plan_field 42 _ 2 w2.heap.size 0 ⟨w2.heap.size, 2, none⟩ (by rfl) (by rfl) (by rfl) (by first | (with_reducible exact Mem.ev_const _ _) | (with_reducible exact Mem.ev_zero _ _ _) | (with_reducible (apply Eq.trans (Mem.ev_tmp _ _ _)); simp only [List.getD_cons_succ, List.getD_cons_zero] <;> rfl)) (fun wx => by go_simp) ?_
    (simp only [Act.put, List.setIfInBounds_toArray, List.set_cons_zero, List.set_cons_succ])
    refine plan_cut 35 _ 32 5 w2.heap.size 2 (by rfl) (by rfl) (by rfl) (by first | (with_reducible exact Mem.ev_const _ _) | (with_reducible exact Mem.ev_zero _ _ _) | (with_reducible (apply Eq.trans (Mem.ev_tmp _ _ _)); simp only [List.getD_cons_succ, List.getD_cons_zero] <;> rfl)) Try.underlying35 infoB ?_
    (simp only [Act.put, List.setIfInBounds_toArray, List.set_cons_zero, List.set_cons_succ])
    (first | (refine plan_move _ _ (by rfl) (by rfl) (.inl (by rfl)) (by first | (with_reducible exact Mem.ev_const _ _) | (with_reducible exact Mem.ev_zero _ _ _) | (with_reducible (apply Eq.trans (Mem.ev_tmp _ _ _)); simp only [List.getD_cons_succ, List.getD_cons_zero] <;> rfl)) ?_) | (refine plan_move _ _ (by rfl) (by rfl) (.inr (by rfl)) (by first | (with_reducible exact Mem.ev_const _ _) | (with_reducible exact Mem.ev_zero _ _ _) | (with_reducible (apply Eq.trans (Mem.ev_tmp _ _ _)); simp only [List.getD_cons_succ, List.getD_cons_zero] <;> rfl)) ?_) | (refine plan_pick_t _ _ _ _ (by rfl) (by rfl) (by rfl) (by first | (with_reducible exact Mem.ev_const _ _) | (with_reducible exact Mem.ev_zero _ _ _) | (with_reducible (apply Eq.trans (Mem.ev_tmp _ _ _)); simp only [List.getD_cons_succ, List.getD_cons_zero] <;> rfl)) (by first | (with_reducible exact Mem.ev_const _ _) | (with_reducible exact Mem.ev_zero _ _ _) | (with_reducible (apply Eq.trans (Mem.ev_tmp _ _ _)); simp only [List.getD_cons_succ, List.getD_cons_zero] <;> rfl)) ?_) | (refine plan_pick_f _ _ _ _ (by rfl) (by rfl) (by rfl) (by first | (with_reducible exact Mem.ev_const _ _) | (with_reducible exact Mem.ev_zero _ _ _) | (with_reducible (apply Eq.trans (Mem.ev_tmp _ _ _)); simp only [List.getD_cons_succ, List.getD_cons_zero] <;> rfl)) (by first | (with_reducible exact Mem.ev_const _ _) | (with_reducible exact Mem.ev_zero _ _ _) | (with_reducible (apply Eq.trans (Mem.ev_tmp _ _ _)); simp only [List.getD_cons_succ, List.getD_cons_zero] <;> rfl)) ?_))
    (simp only [Act.put, List.setIfInBounds_toArray, List.set_cons_zero, List.set_cons_succ])
    refine plan_call 34 _ _ _ (by kernel_rfl) (by rfl) (by rfl) (by rfl) (by first | exact Mem.ev_none _ | (simp only [List.map_toArray, List.map_cons, List.map_nil, Mem.ev_tmp, List.getD_cons_succ, List.getD_cons_zero] <;> rfl)) ?_
    refine (NU3.out br _ I2.out.drew.r).mono ?_
    rintro e w7 ⟨vx, rfl, hsx, hp⟩
    have J3 := Lib.hid (I2.out.drew.call HB1.out HB2.out hp); have SX := Lib.hid hsx
    clear hp hsx I2 J2
    refine ⟨_, rfl, trivial, ?_⟩
    (simp only [Act.put, List.setIfInBounds_toArray, List.set_cons_zero, List.set_cons_succ])
    refine plan_copy_row _ _ (by rfl) (by rfl) (by rfl) w2.heap.size 2 C2 42 _ x3 (by first | (with_reducible exact Mem.ev_const _ _) | (with_reducible exact Mem.ev_zero _ _ _) | (with_reducible (apply Eq.trans (Mem.ev_tmp _ _ _)); simp only [List.getD_cons_succ, List.getD_cons_zero] <;> rfl)) (by first | (with_reducible exact Mem.ev_const _ _) | (with_reducible exact Mem.ev_zero _ _ _) | (with_reducible (apply Eq.trans (Mem.ev_tmp _ _ _)); simp only [List.getD_cons_succ, List.getD_cons_zero] <;> rfl)) SX.out LT3.out J3.out.ag (by rw [S2.out]; decide) C3 Q3.out ?_
    intro nv w8 ha ho hk
    have I3 := Lib.hid (J3.out.store HB1.out HB2.out ha ho hk)
    clear ha ho hk SX J3
    refine ⟨trivial, ?_⟩
    (simp only [Act.put, List.setIfInBounds_toArray, List.set_cons_zero, List.set_cons_succ])
    refine plan_nil ?_
    go_wp2_with fail
    refine (PE.out br _ I3.out.r).mono ?_
    rintro e w9 ⟨rfl, rfl⟩
    rcases SP.out with ⟨he, h1, h2⟩ | ⟨he, h1, h2⟩
    · subst he
      go_wp2_with (first
        | (refine wpList_load_all (by rfl) 42 _ (by rfl) w2.heap.size (by rfl) _ Try.underlying42 (by rfl) C3 _ I3.out.ag (by rw [S3.out]; exact infoRfP) ?_)
        | (refine wpList_store_all (by rfl) 42 _ _ (by rfl) (by rfl) w.heap.size C3 (by rfl) (by rfl) (by rw [S3.out]; exact infoRfP) Z 42 I3.out.ar (by rw [S3.out, ZS.out]) O3.out ?_))
      try simp only [Exit.inBlock, Exit.then]
      refine ret_row_tmp (by rfl) w.heap.size 42 C3 _ (.int .i64 0) (by rfl) (by rfl) (I3.out.ar.row C3) Try.underlying42 (by rfl) (by rw [S3.out]; exact infoRfP) ?_
      exact ⟨by rw [h1, h2], below_row I3.out.l (Nat.le_refl _) C3⟩
    · subst he
      go_wp2_with (first
        | (refine Mem.wpList_build (by rfl) 42 _ #[] (.agg Z) (by rfl) (by simp) BN.out ?_)
        | (refine wpList_store_all (by rfl) 42 _ _ (by rfl) (by rfl) w.heap.size Z (by rfl) (by rfl) (by rw [ZS.out]; exact infoRfP) Z 42 I3.out.ar (by rfl) ZO.out ?_))
      try simp only [Exit.inBlock, Exit.then]
      refine ret_row_tmp (by rfl) w.heap.size 42 Z _ (.int .i64 1) (by rfl) (by rfl) (I3.out.ar.row Z) Try.underlying42 (by rfl) (by rw [ZS.out]; exact infoRfP) ?_
      exact ⟨by rw [h1, h2], below_row I3.out.l (Nat.le_refl _) Z⟩
  · have e0 : parseRf b = (zref, 1) := by unfold parseRf; rw [if_pos (.inl h37)]
    rw [e0]
    obtain ⟨a0, c0, rfl⟩ := sl_inv hv
    obtain ⟨n, hn⟩ : ∃ n, n = b.length := ⟨_, rfl⟩
    rw [← hn] at h37 hv1 ⊢
    have h37' : ¬ (n : Int) = 37 := by omega
    simp only
    rw [← hZ]
    have ZS := Lib.hid zs; have ZO := Lib.hid zo; have BN := Lib.hid bn; have AZ := Lib.hid az; have BZ := Lib.hid bz
    clear hv hv1 zs zo bn az bz hZ hn e0 _hb h37
    go_enter Try.func33, Try.ntmps33
    go_upto_region 1 with fail
    clear hx
    generalize w.alloc (.cells Z 42) = w1 at *
    go_wp2_with (first
      | (refine Mem.wpList_build (by rfl) 42 _ #[] (.agg Z) (by rfl) (by simp) BN.out ?_)
      | (refine wpList_store_all (by rfl) 42 _ _ (by rfl) (by rfl) w.heap.size Z (by rfl) (by rfl) (by rw [ZS.out]; exact infoRfP) Z 42 AZ.out (by rfl) ZO.out ?_))
    try simp only [Exit.inBlock, Exit.then]
    refine ret_row_tmp (by rfl) w.heap.size 42 Z _ (.int .i64 1) (by rfl) (by rfl) (AZ.out.row Z) Try.underlying42 (by rfl) (by rw [ZS.out]; exact infoRfP) ?_
    exact ⟨rfl, below_row BZ.out (Nat.le_refl _) Z⟩
end Sha
end Go.Proofs.Ytfbhbdllbapnpaa
namespace Go.Proofs.Ytfbhbdllbapnpaa
namespace Sha
open Go.RowKit Mem
set_option maxRecDepth 100000
theorem isMany_any (z : Int) (w : World) : Calls Try.prog 19 #[.int .i64 z] w fun e w' => e = .returned (.bool (decide (1 ≤ z ∧ z ≤ 6))) ∧ w' = w := by
  by_cases h1 : 1 ≤ z
  · by_cases h6 : z ≤ 6
    · rw [decide_eq_true ⟨h1, h6⟩]
      go_enter Try.func19, Try.ntmps19
      go_wp2_with fail
      go_ret
      exact ⟨rfl, rfl⟩
    · rw [decide_eq_false (fun h => h6 h.2)]
      go_enter Try.func19, Try.ntmps19
      go_wp2_with fail
      go_ret
      exact ⟨rfl, rfl⟩
  · rw [decide_eq_false (fun h => h1 h.1)]
    go_enter Try.func19, Try.ntmps19
    go_wp2_with fail
    go_ret
    exact ⟨rfl, rfl⟩
/-- It returns the struct of these references, and a number. -/
def TkE (w : World) (L : List RefV) (n : Int) (e : Ending) (w' : World) : Prop := e = .returned (.tuple #[.agg (tkC (pad6 L) L.length), .int .i64 n]) ∧ Below w.heap.size w w'
/-- The reader at br, the result, the struct that is filled at bt. -/
structure TInv (w : World) (br bt : Nat) (Z C : Array Value) (b : List (BitVec 8)) (e : Nat) (W : World) : Prop where
  r : RPk W br b e
  ar : At W w.heap.size Z 61
  ag : At W bt C 61
  l : Below w.heap.size w W
  o1 : w.heap.size < br
  o2 : br < bt
section
variable {w W W' : World} {br bt : Nat} {Z C C' : Array Value} {b b' : List (BitVec 8)} {e e' : Nat}
theorem TInv.call (h : TInv w br bt Z C b e W) (hp : PkEnd RPk W br b' e' W') : TInv w br bt Z C b' e' W' :=
  ⟨hp.r, h.ar.but hp.o (by have := h.o1; omega), h.ag.but hp.o (by have := h.o2; omega), hp.k _ _ h.l (by have := h.o1; omega), h.o1, h.o2⟩
theorem TInv.below (h : TInv w br bt Z C b e W) (hb : Below W.heap.size W W') : TInv w br bt Z C b e W' :=
  ⟨h.r.below hb, h.ar.below hb h.ar.lt, h.ag.below hb h.ag.lt, h.l.trans (hb.mono h.l.size), h.o1, h.o2⟩
theorem TInv.row (h : TInv w br bt Z C b e W) (D : Array Value) : TInv w br bt Z D b e (W.setRow bt D) := by
  have hs : But bt W (W.setRow bt D) := ⟨by simp, fun k _ hne => setRow_other W bt k D hne⟩
  exact ⟨h.r.above hs h.o2, h.ar.but hs (by have := h.o1; have := h.o2; omega), h.ag.row D, below_row h.l (by have := h.o1; have := h.o2; omega) D, h.o1, h.o2⟩
end
/-- What the count tells. -/
theorem num_page (p : List (BitVec 8)) (hp : p.length = 256) (n e1 : Nat) (b1 : List (BitVec 8)) (h : (n, b1, e1) = rdNum p 0 1 6) :
    b1 = p.drop 1 ∧ ((6 < (p.getD 0 0).toNat ∧ n = 0 ∧ e1 = 3) ∨ ((p.getD 0 0).toNat ≤ 6 ∧ n = (p.getD 0 0).toNat ∧ e1 = 0)) := by
  match p, hp with
  | a :: t, hp =>
    rw [rdNum_ok _ 1 6 (by simp)] at h
    have e : leN ((a :: t).take 1) = a.toNat := by simp [leN]
    rw [e] at h
    by_cases g : 6 < a.toNat
    · rw [if_pos g] at h
      injection h with h1 h2
      injection h2 with h2 h3
      exact ⟨h2, .inl ⟨g, h1, h3⟩⟩
    · rw [if_neg g] at h
      injection h with h1 h2
      injection h2 with h2 h3
      exact ⟨h2, .inr ⟨Nat.le_of_not_lt g, h1, h3⟩⟩
/-- What the rest tells. -/
theorem rest_page (p : List (BitVec 8)) (hp : p.length = 256) (n e1 : Nat) (h : (6 < (p.getD 0 0).toNat ∧ n = 0 ∧ e1 = 3) ∨ ((p.getD 0 0).toNat ≤ 6 ∧ n = (p.getD 0 0).toNat ∧ e1 = 0)) :
    (rdRest (p.drop (1 + 37 * n)) e1 = 0 ∧ n = (p.getD 0 0).toNat ∧ zerosFrom p (1 + 37 * n)) ∨ (rdRest (p.drop (1 + 37 * n)) e1 = 3 ∧ allN p = ([], 9)) := by
  rcases h with ⟨h1, rfl, rfl⟩ | ⟨h1, h2, rfl⟩
  · exact .inr ⟨rfl, allN_few p hp (.inr h1)⟩
  · cases hz : allZ (p.drop (1 + 37 * n))
    · refine .inr ⟨by unfold rdRest; rw [if_pos ⟨rfl, hz⟩], ?_⟩
      unfold allZ at hz
      obtain ⟨y, hy, hy0⟩ := List.all_eq_false.1 hz
      obtain ⟨j, hj, e⟩ := List.mem_iff_getElem.1 hy
      have hjl : 1 + 37 * n + j < p.length := by rw [List.length_drop] at hj; omega
      rw [List.getElem_drop] at e
      refine allN_tail p hp n (1 + 37 * n + j) h2.symm (by omega) (by omega) (by omega) ?_
      rw [List.getD_eq_getElem?_getD, List.getElem?_eq_getElem hjl, Option.getD_some, e]
      simpa using hy0
    · refine .inl ⟨by unfold rdRest; rw [if_neg (fun h => by rw [hz] at h; cases h.2)], h2, fun j h3 h4 => ?_⟩
      unfold allZ at hz
      have hm : p.getD j 0 ∈ p.drop (1 + 37 * n) := by
        rw [List.mem_iff_getElem]
        refine ⟨j - (1 + 37 * n), by rw [List.length_drop]; omega, ?_⟩
        rw [List.getElem_drop, List.getD_eq_getElem?_getD]
        have : 1 + 37 * n + (j - (1 + 37 * n)) = j := by omega
        simp [this, h4]
      simpa using List.all_eq_true.1 hz _ hm
set_option maxHeartbeats 2000000 in
theorem take_page (p : List (BitVec 8)) (v : Value) (w : World) (hv : Sl w v p) (hp : p.length = 256) : Calls Try.prog 25 #[v] w (TkE w (allN p).1 (allN p).2) := by
  have hfew := allN_few p hp
  have hgood := fun m h0 h1 h6 hpl hz => allN_good p hp m h0 h1 h6 hpl hz
  have hplace := fun m i h0 h6 hi h => allN_place p hp m i h0 h6 hi h
  have hrd := fun wx h => read_any p v wx h (by omega)
  obtain ⟨r1, hr1⟩ : ∃ r, r = rdNum p 0 1 6 := ⟨_, rfl⟩
  have hnu : ∀ br wx, RPk wx br p 0 → Calls Try.prog 32 #[rp br, .int .i64 1, .int .u64 6] wx fun o w' => o = .returned (.int .u64 ((r1.1 : Nat) : Int)) ∧ PkEnd RPk wx br r1.2.1 r1.2.2 w' := fun br wx h => by rw [hr1]; exact pnumget_any p 0 1 6 br wx h (by omega) (by omega)
  obtain ⟨n, b1, e1⟩ := r1
  simp only at hnu
  obtain ⟨hb1, hcase⟩ := num_page p hp n e1 b1 hr1
  subst hb1
  have hrest := rest_page p hp n e1 hcase
  have hn6 : n ≤ 6 := by rcases hcase with h | h <;> omega
  have hpos : 0 < n → e1 = 0 ∧ n = (p.getD 0 0).toNat := fun h => by rcases hcase with a | a <;> omega
  have hby : ∀ i br wx, i < n → RPk wx br (p.drop (1 + 37 * i)) e1 → Calls Try.prog 34 #[rp br, .int .i64 37] wx fun o w' => ∃ v, o = .returned v ∧ Sl w' v (pieceN p i) ∧ PkEnd RPk wx br (p.drop (1 + 37 * (i + 1))) e1 w' := fun i br wx hi h => by
    obtain ⟨he, _⟩ := hpos (by omega)
    subst he
    have h2 := pbytes_any (p.drop (1 + 37 * i)) 0 37 br wx h (by rw [List.length_drop]; omega) (by decide) (by decide)
    have e : rdTake (p.drop (1 + 37 * i)) 0 (37 : Int).toNat = ⟨pieceN p i, p.drop (1 + 37 * (i + 1)), 0⟩ := by
      show rdTake (p.drop (1 + 37 * i)) 0 37 = _
      rw [rdTake_ok _ 37 (by rw [List.length_drop]; omega), List.drop_drop, show 1 + 37 * i + 37 = 1 + 37 * (i + 1) by omega]
      rfl
    rw [e] at h2
    exact h2
  have hpa : ∀ i wx u, i < n → Sl wx u (pieceN p i) → Calls Try.prog 33 #[u] wx fun e w' => e = .returned (.tuple #[.agg (refC (parseRf (pieceN p i)).1), .int .i64 (parseRf (pieceN p i)).2]) ∧ Below wx.heap.size wx w' := fun i wx u hi h => pparse9_any (pieceN p i) u wx h (by rw [piece_length p i hp (by omega)]; decide)
  have hpc := fun i (hi : i < n) => parse_piece p i hp (by omega)
  have hre := fun br wx h => prest_any (p.drop (1 + 37 * n)) e1 br wx h (by rw [List.length_drop]; omega)
  obtain ⟨rr, hrr⟩ : ∃ rr, rr = rdRest (p.drop (1 + 37 * n)) e1 := ⟨_, rfl⟩
  rw [← hrr] at hrest hre
  have hwf := fun m (hm : m ≤ n) => refsN_wf p m hp (by omega)
  have hrs := fun m => refsN_succ p m
  have hrl := fun m => refsN_length p m
  obtain ⟨Y, hY⟩ : ∃ Y, Y = allN p := ⟨_, rfl⟩
  rw [← hY] at hfew hgood hplace hrest ⊢
  obtain ⟨a0, c0, rfl⟩ := sl_inv hv
  rw [hp] at hv hrd ⊢
  obtain ⟨x, hx⟩ : ∃ x, x = (p.getD 0 0).toNat := ⟨_, rfl⟩
  rw [← hx] at hfew hgood hplace hpos hrest hcase
  have hxz := zeroTk
  have bn := buildTk0
  have b1n := buildTk1 n
  obtain ⟨Z, hZ⟩ : ∃ Z, Z = tkC (pad6 []) 0 := ⟨_, rfl⟩
  obtain ⟨C0, hC0⟩ : ∃ C, C = tkC (pad6 []) n := ⟨_, rfl⟩
  have zs : Z.size = 205 := by rw [hZ]; exact tkC_size (pad6_wf (fun _ h => nomatch h)) (pad6_len (by decide))
  have zo : Z.all (·.oneCell') = true := by rw [hZ]; exact tkC_one
  have cs : C0.size = 205 := by rw [hC0]; exact tkC_size (pad6_wf (fun _ h => nomatch h)) (pad6_len (by decide))
  have co : C0.all (·.oneCell') = true := by rw [hC0]; exact tkC_one
  have cm : C0[204]? = some (.int .i64 (n : Int)) := by rw [hC0]; exact tkC_many (pad6_wf (fun _ h => nomatch h)) (pad6_len (by decide))
  rw [← hZ] at hxz bn
  rw [← hC0] at b1n
  have bz : Below w.heap.size w (w.alloc (.cells Z 61)) := (Below.refl _ _).alloc (Nat.le_refl _) _
  have az := at_new w Z 61
  have hv1 := hv.below bz
  have FEW := Lib.hid hfew; have GOOD := Lib.hid hgood; have PLACE := Lib.hid hplace; have RD := Lib.hid hrd; have NU := Lib.hid hnu; have REST := Lib.hid hrest; have POS := Lib.hid hpos; have BY := Lib.hid hby; have PA := Lib.hid hpa; have PC := Lib.hid hpc; have RE := Lib.hid hre; have WF := Lib.hid hwf; have RS := Lib.hid hrs; have RL := Lib.hid hrl; have HP := Lib.hid hp; have HX := Lib.hid hx
  have BN := Lib.hid bn; have B1N := Lib.hid b1n; have HZ := Lib.hid hZ; have HC0 := Lib.hid hC0; have ZS := Lib.hid zs; have ZO := Lib.hid zo; have CS := Lib.hid cs; have CO := Lib.hid co; have CM := Lib.hid cm; have BZ := Lib.hid bz; have AZ := Lib.hid az; have HV := Lib.hid hv1
  clear hfew hgood hplace hrd hnu hrest hpos hby hpa hpc hre hwf hrs hrl hp hx bn b1n hZ hC0 zs zo cs co cm bz az hv1 hv hY hcase hrr hr1
  have hx := hxz
  clear hxz
  go_enter Try.func25, Try.ntmps25
  go_wp2_with fail
  refine (RD.out _ HV.out).mono ?_
  rintro e w2 ⟨br, rfl, hbr, hr2, hb2⟩
  have HBR := Lib.hid hbr; have R2 := Lib.hid hr2
  have B2 : Hid (Below w.heap.size w w2) := Lib.hid (BZ.out.trans (hb2.mono BZ.out.size))
  have A2 := Lib.hid (AZ.out.below hb2 AZ.out.lt)
  clear hbr hr2 hb2
  go_wp2_with fail
  refine (NU.out br _ R2.out).mono ?_
  rintro e w3 ⟨rfl, hpk⟩
  have hbr1 : w.heap.size < br := by have h := HBR.out; simp at h; omega
  have R3 := Lib.hid hpk.r
  have A3 := Lib.hid (A2.out.but hpk.o (by omega)); have B3 : Hid (Below w.heap.size w w3) := Lib.hid (hpk.k _ _ B2.out (by omega))
  have O1 := Lib.hid hbr1; have O2 := Lib.hid hpk.r.lt
  clear hpk hbr1 A2 B2 R2
  have I0 : Hid (TInv w br w3.heap.size Z C0 (p.drop 1) e1 (w3.alloc (.cells C0 61))) := Lib.hid ⟨R3.out.below ((Below.refl _ _).alloc (Nat.le_refl _) _), A3.out.alloc _, at_new _ _ _, B3.out.alloc B3.out.size _, O1.out, O2.out⟩
  have cm : (w3.alloc (.cells C0 61)).cell? ⟨w3.heap.size, 204, none⟩ = some (.int .i64 (n : Int)) := (I0.out.ag.cell 204).trans CM.out
  go_wp2_with (first
    | (refine wpList_conv (by rfl) _ _ _ _ (.int .i64 (n : Int)) (by rfl) (by rfl) (fun wx => conv_ui9 n (by omega) wx) ?_)
    | (refine Mem.wpList_build (by rfl) 61 _ #[(1, .int .i64 (n : Int))] (.agg C0) (by rfl) (by simp [Act.eval, Act.put]) B1N.out ?_)
    | (refine wpList_store_new (by rfl) 61 _ _ (by rfl) (by rfl) C0 _ _ (by rfl) (by rfl) (by rw [CS.out]; exact infoTk) (by rw [ZS.out, CS.out]) CO.out ?_))
  clear cm hx
  obtain ⟨bt, hbt⟩ : ∃ bt, bt = w3.heap.size := ⟨_, rfl⟩
  rw [← hbt] at I0 O2 ⊢
  clear hbt
  generalize w3.alloc (.cells C0 61) = w4 at *
  have cm : w4.cell? ⟨bt, 204, none⟩ = some (.int .i64 (n : Int)) := (I0.out.ag.cell 204).trans CM.out
  have I1 : Hid (TInv w br bt Z (tkC (pad6 (refsN p 0)) n) (p.drop (1 + 37 * 0)) e1 w4) := Lib.hid (by
    have h := I0.out
    rw [HC0.out] at h
    exact h)
  go_upto_region 6 with fail
  clear I0 cm
  go_loopw [21] (fun vi wr => ∃ i : Nat, i ≤ n ∧ vi = .int .i64 (i : Int) ∧ TInv w br bt Z (tkC (pad6 (refsN p i)) n) (p.drop (1 + 37 * i)) e1 wr ∧ (∀ k, k < i → ((pieceN p k).getD 0 0).toNat ≤ 1)) (fun vi _ => n - (intOf vi).toNat)
  case atStart => exact ⟨0, by omega, rfl, I1.out, fun k hk => by omega⟩
  case round =>
    obtain ⟨i, hi, rfl, hI, hpl⟩ := hrel
    have PL := Lib.hid hpl
    have hwl := WF.out i hi
    have hll := RL.out i
    have hp6 : (refsN p i).length ≤ 6 := by omega
    have hcm : (tkC (pad6 (refsN p i)) n)[204]? = some (.int .i64 (n : Int)) := tkC_many (pad6_wf hwl) (pad6_len hp6)
    have hcs : (tkC (pad6 (refsN p i)) n).size = 205 := tkC_size (pad6_wf hwl) (pad6_len hp6)
    have hco : (tkC (pad6 (refsN p i)) n).all (·.oneCell') = true := tkC_one
    have hsp : ∀ r : RefV, r.Wf → i < n → Mem.splice (tkC (pad6 (refsN p i)) n) (i * 34) (refL r) = tkC (pad6 (refsN p i ++ [r])) n := fun r hr hlt => by
      rw [tkC_set (pad6_wf hwl) (pad6_len hp6) hr (by omega)]
      have h := pad6_next (L := refsN p i) r (by omega)
      rw [hll] at h
      rw [h]
    obtain ⟨C, hC⟩ : ∃ C, C = tkC (pad6 (refsN p i)) n := ⟨_, rfl⟩
    rw [← hC] at hI hcm hcs hco hsp
    have IW := Lib.hid hI; have CMI := Lib.hid hcm; have CSI := Lib.hid hcs; have COI := Lib.hid hco; have SP := Lib.hid hsp; have HC := Lib.hid hC
    clear hI hpl hwl hll hp6 hcm hcs hco hsp hC
    by_cases hlt : i < n
    · have hlt2 : (i : Int) < (n : Int) := by omega
      have hi6 : i < 6 := by omega
      obtain ⟨he, hnx⟩ := POS.out (by omega)
      have hby := fun br wx h => BY.out i br wx hlt h
      have hpa := fun wx u h => PA.out i wx u hlt h
      have hpc := PC.out i hlt
      have hpt := PLACE.out n i hnx.symm hn6 hlt
      have hrs := RS.out i
      have hwi : (rfOf (pieceN p i)).Wf := rfOf_wf _ (piece_length p i HP.out hi6)
      have hpl2 : ¬ 1 < ((pieceN p i).getD 0 0).toNat → ∀ k, k < i + 1 → ((pieceN p k).getD 0 0).toNat ≤ 1 := fun h k hk => by
        rcases Nat.lt_or_ge k i with a | a
        · exact PL.out k a
        · rw [show k = i by omega]; omega
      obtain ⟨s, hs⟩ : ∃ s, s = pieceN p i := ⟨_, rfl⟩
      rw [← hs] at hby hpa hpc hpt hrs hwi hpl2
      have BYI := Lib.hid hby
      have hx := zeroRfP
      obtain ⟨Zr, hZr⟩ : ∃ Z, Z = refC zref := ⟨_, rfl⟩
      have zrs : Zr.size = 34 := by rw [hZr]; exact refC_size zref_wf
      have zro : Zr.all (·.oneCell') = true := by rw [hZr]; exact refC_one zref
      rw [← hZr] at hx
      have ZRS := Lib.hid zrs; have ZRO := Lib.hid zro
      by_cases g1 : 1 < (s.getD 0 0).toNat
      · rw [hpc, if_pos g1] at hpa
        simp only at hpa
        rw [← hZr] at hpa
        have PAI := Lib.hid hpa; have HY := Lib.hid (hpt g1)
        clear hby hpa hpc hpt hrs hwi hpl2 hs g1 zrs zro hZr he hnx
        go_wp2_with fail
        refine (BYI.out br _ IW.out.r).mono ?_
        rintro e w5 ⟨u, rfl, hsu, hpk⟩
        have J5 := Lib.hid (IW.out.call hpk); have SU := Lib.hid hsu
        clear hsu hpk
        go_wp2_with fail
        refine (PAI.out _ _ SU.out).mono ?_
        rintro e w6 ⟨rfl, hb6⟩
        have J6 := Lib.hid ((J5.out.below hb6).below ((Below.refl _ _).alloc (Nat.le_refl _) (.cells Zr 42)))
        clear hb6 J5 SU
        go_wp2_with (first
          | (refine wpList_store_new (by rfl) 42 _ _ (by rfl) (by rfl) Zr _ _ (by rfl) (by rfl) (by rw [ZRS.out]; exact infoRfP) (by rfl) ZRO.out ?_)
          | (refine Mem.wpList_build (by rfl) 61 _ #[] (.agg Z) (by rfl) (by simp) BN.out ?_)
          | (refine wpList_store_all (by rfl) 61 _ _ (by rfl) (by rfl) w.heap.size Z (by rfl) (by rfl) (by rw [ZS.out]; exact infoTk) Z 61 J6.out.ar (by rfl) ZO.out ?_))
        try simp only [Exit.inBlock, Exit.then]
        refine ret_row_tmp (by rfl) w.heap.size 61 Z _ _ (by rfl) (by rfl) (J6.out.ar.row Z) Try.underlying61 (by rfl) (by rw [ZS.out]; exact infoTk) ?_
        exact ⟨by rw [HY.out, HZ.out]; rfl, below_row J6.out.l (Nat.le_refl _) Z⟩
      · rw [hpc, if_neg g1] at hpa
        simp only at hpa
        obtain ⟨r, hr⟩ : ∃ r, r = rfOf s := ⟨_, rfl⟩
        rw [← hr] at hpa hwi hrs
        have hsp := SP.out r hwi hlt
        rw [← hrs] at hsp
        obtain ⟨M, hM⟩ : ∃ M, M = refC r := ⟨_, rfl⟩
        have hml : M.toList = refL r := by rw [hM]; rfl
        have ms : M.size = 34 := by rw [hM]; exact refC_size hwi
        have mo : M.all (·.oneCell') = true := by rw [hM]; exact refC_one r
        rw [← hml] at hsp
        rw [← hM] at hpa
        have PAI := Lib.hid hpa; have SPI := Lib.hid hsp; have MS := Lib.hid ms; have MO := Lib.hid mo; have PL2 := Lib.hid (hpl2 g1)
        clear hby hpa hpc hpt hrs hwi hpl2 hs g1 zrs zro hZr he hnx hr hM hml ms mo hsp
        go_wp2_with fail
        refine (BYI.out br _ IW.out.r).mono ?_
        rintro e w5 ⟨u, rfl, hsu, hpk⟩
        have J5 := Lib.hid (IW.out.call hpk); have SU := Lib.hid hsu
        clear hsu hpk
        go_wp2_with fail
        refine (PAI.out _ _ SU.out).mono ?_
        rintro e w6 ⟨rfl, hb6⟩
        have J6 := Lib.hid ((J5.out.below hb6).below ((Below.refl _ _).alloc (Nat.le_refl _) (.cells M 42)))
        have A6 := Lib.hid (at_new w6 M 42)
        clear hb6 J5 SU
        go_upto_region 11 with (refine wpList_store_new (by rfl) 42 _ _ (by rfl) (by rfl) M _ _ (by rfl) (by rfl) (by rw [MS.out]; exact infoRfP) (by rw [MS.out, ZRS.out]) MO.out ?_)
        clear hx
        obtain ⟨l, hl⟩ : ∃ l, l = w6.heap.size := ⟨_, rfl⟩
        rw [← hl] at A6 ⊢
        clear hl
        generalize (w6.alloc (.cells M 42)) = w7 at *
        go_wp2_with (first
          | (refine wpList_load_all (by rfl) 42 _ (by rfl) l (by rfl) _ Try.underlying42 (by rfl) M _ A6.out (by rw [MS.out]; exact infoRfP) ?_)
          | (refine Mem.wpList_store_at (by rfl) 42 _ _ (by rfl) (by rfl) bt (i * 34) M (by rfl) (by rfl) (by rw [MS.out]; exact infoRfP) C 61 J6.out.ag (by rw [MS.out, CSI.out]; omega) MO.out ?_; rw [SPI.out]))
        go_roundw
        case rel => exact ⟨i + 1, by omega, by go_num, J6.out.row _, PL2.out⟩
        case measure => simp [intOf]; omega
    · have hin : i = n := by omega
      subst hin
      have hge : ¬ (i : Int) < (i : Int) := by omega
      go_wp2_with fail
      refine (RE.out br _ IW.out.r).mono ?_
      rintro e w5 ⟨rfl, hpk⟩
      have J5 := Lib.hid (IW.out.call hpk)
      clear hpk
      rcases REST.out with ⟨h0, hnx, hz⟩ | ⟨h3, hy⟩
      · subst h0
        have cm : w5.cell? ⟨bt, 204, none⟩ = some (.int .i64 (i : Int)) := (J5.out.ag.cell 204).trans CMI.out
        have im := isMany_any (i : Int) w5
        by_cases h1 : 1 ≤ i
        · rw [decide_eq_true (⟨by omega, by omega⟩ : 1 ≤ (i : Int) ∧ (i : Int) ≤ 6)] at im
          have hy := GOOD.out i hnx.symm h1 hn6 PL.out hz
          have IM := Lib.hid im; have HY := Lib.hid hy; have RLI := Lib.hid (RL.out i)
          clear im hy h1 hnx hz
          go_wp2_with fail
          refine IM.out.mono ?_
          rintro e w6 ⟨rfl, rfl⟩
          go_wp2_with (first
            | (refine wpList_load_all (by rfl) 61 _ (by rfl) bt (by rfl) _ Try.underlying61 (by rfl) C _ J5.out.ag (by rw [CSI.out]; exact infoTk) ?_)
            | (refine wpList_store_all (by rfl) 61 _ _ (by rfl) (by rfl) w.heap.size C (by rfl) (by rfl) (by rw [CSI.out]; exact infoTk) Z 61 J5.out.ar (by rw [CSI.out, ZS.out]) COI.out ?_))
          try simp only [Exit.inBlock, Exit.then]
          refine ret_row_tmp (by rfl) w.heap.size 61 C _ _ (by rfl) (by rfl) (J5.out.ar.row C) Try.underlying61 (by rfl) (by rw [CSI.out]; exact infoTk) ?_
          exact ⟨by rw [HY.out, HC.out]; simp only [RLI.out]; rfl, below_row J5.out.l (Nat.le_refl _) C⟩
        · rw [decide_eq_false (fun h : 1 ≤ (i : Int) ∧ (i : Int) ≤ 6 => h1 (by omega))] at im
          have hy := FEW.out (.inl (by omega))
          have IM := Lib.hid im; have HY := Lib.hid hy
          clear im hy h1 hnx hz
          go_wp2_with fail
          refine IM.out.mono ?_
          rintro e w6 ⟨rfl, rfl⟩
          go_wp2_with (first
            | (refine Mem.wpList_build (by rfl) 61 _ #[] (.agg Z) (by rfl) (by simp) BN.out ?_)
            | (refine wpList_store_all (by rfl) 61 _ _ (by rfl) (by rfl) w.heap.size Z (by rfl) (by rfl) (by rw [ZS.out]; exact infoTk) Z 61 J5.out.ar (by rfl) ZO.out ?_))
          try simp only [Exit.inBlock, Exit.then]
          refine ret_row_tmp (by rfl) w.heap.size 61 Z _ _ (by rfl) (by rfl) (J5.out.ar.row Z) Try.underlying61 (by rfl) (by rw [ZS.out]; exact infoTk) ?_
          exact ⟨by rw [HY.out, HZ.out]; rfl, below_row J5.out.l (Nat.le_refl _) Z⟩
      · subst h3
        have HY := Lib.hid hy
        clear hy
        go_wp2_with (first
          | (refine Mem.wpList_build (by rfl) 61 _ #[] (.agg Z) (by rfl) (by simp) BN.out ?_)
          | (refine wpList_store_all (by rfl) 61 _ _ (by rfl) (by rfl) w.heap.size Z (by rfl) (by rfl) (by rw [ZS.out]; exact infoTk) Z 61 J5.out.ar (by rfl) ZO.out ?_))
        try simp only [Exit.inBlock, Exit.then]
        refine ret_row_tmp (by rfl) w.heap.size 61 Z _ _ (by rfl) (by rfl) (J5.out.ar.row Z) Try.underlying61 (by rfl) (by rw [ZS.out]; exact infoTk) ?_
        exact ⟨by rw [HY.out, HZ.out]; rfl, below_row J5.out.l (Nat.le_refl _) Z⟩
set_option maxHeartbeats 1000000 in
theorem ptake_any (p : List (BitVec 8)) (v : Value) (w : World) (hv : Sl w v p) (_hl : p.length ≤ 1000) : Calls Try.prog 25 #[v] w (TkE w (allN p).1 (allN p).2) := by
  by_cases hp : p.length = 256
  · exact take_page p v w hv hp
  · have hy : allN p = ([], 1) := by unfold allN; rw [if_pos hp]
    obtain ⟨Y, hY⟩ : ∃ Y, Y = allN p := ⟨_, rfl⟩
    rw [← hY] at hy ⊢
    obtain ⟨a, c, rfl, _⟩ := hv
    have hne : ¬ (p.length : Int) = 256 := by omega
    obtain ⟨n, hn⟩ : ∃ n, n = p.length := ⟨_, rfl⟩
    rw [← hn] at hne ⊢
    have hx := zeroTk
    have bn := buildTk0
    obtain ⟨Z, hZ⟩ : ∃ Z, Z = tkC (pad6 []) 0 := ⟨_, rfl⟩
    have zs : Z.size = 205 := by rw [hZ]; exact tkC_size (pad6_wf (fun _ h => nomatch h)) (pad6_len (by decide))
    have zo : Z.all (·.oneCell') = true := by rw [hZ]; exact tkC_one
    rw [← hZ] at hx bn
    have az := at_new w Z 61
    have bz : Below w.heap.size w (w.alloc (.cells Z 61)) := (Below.refl _ _).alloc (Nat.le_refl _) _
    have HY := Lib.hid hy; have BN := Lib.hid bn; have HZ := Lib.hid hZ; have ZS := Lib.hid zs; have ZO := Lib.hid zo; have AZ := Lib.hid az; have BZ := Lib.hid bz
    clear hy hY hp hn _hl bn hZ zs zo az bz
    go_enter Try.func25, Try.ntmps25
    go_upto_region 1 with fail
    clear hx
    generalize w.alloc (.cells Z 61) = w1 at *
    go_wp2_with (first
      | (refine Mem.wpList_build (by rfl) 61 _ #[] (.agg Z) (by rfl) (by simp) BN.out ?_)
      | (refine wpList_store_all (by rfl) 61 _ _ (by rfl) (by rfl) w.heap.size Z (by rfl) (by rfl) (by rw [ZS.out]; exact infoTk) Z 61 AZ.out (by rfl) ZO.out ?_))
    try simp only [Exit.inBlock, Exit.then]
    refine ret_row_tmp (by rfl) w.heap.size 61 Z _ _ (by rfl) (by rfl) (AZ.out.row Z) Try.underlying61 (by rfl) (by rw [ZS.out]; exact infoTk) ?_
    exact ⟨by rw [HY.out, HZ.out]; rfl, below_row BZ.out (Nat.le_refl _) Z⟩
end Sha
end Go.Proofs.Ytfbhbdllbapnpaa
namespace Go.Proofs.Ytfbhbdllbapnpaa
namespace Sha
open Go.RowKit Mem
set_option maxRecDepth 100000
/-- A page's references, if there is one of that place. -/
def atN (p : List (BitVec 8)) (z : Int) : List RefV × Int :=
  if (allN p).2 ≠ 0 then ([], (allN p).2) else if z < 0 ∨ ((allN p).1.length : Int) ≤ z then ([], 1) else allN p
theorem atN_get (p : List (BitVec 8)) (z : Int) : getN p z = if (atN p z).2 ≠ 0 then (zref, (atN p z).2) else ((allN p).1.getD z.toNat zref, 0) := by
  unfold getN atN
  split
  · simp only
  · split
    · rfl
    · simp only
theorem atN_ok {p : List (BitVec 8)} {z : Int} (h : (atN p z).2 = 0) : atN p z = allN p ∧ 0 ≤ z ∧ z < ((allN p).1.length : Int) := by
  unfold atN at *
  split at h
  · rename_i g; exact absurd h g
  · split at h
    · cases h
    · rename_i g1 g2; rw [if_neg g1, if_neg g2]; exact ⟨rfl, by omega⟩
theorem atN_bad {p : List (BitVec 8)} {z : Int} (h : (atN p z).2 ≠ 0) : (atN p z).1 = [] := by
  unfold atN at *
  split
  · rfl
  · split
    · rfl
    · rename_i g1 g2; rw [if_neg g1, if_neg g2] at h; exact absurd h g1
set_option maxHeartbeats 1000000 in
theorem takeAt_any (p : List (BitVec 8)) (z : Int) (v : Value) (w : World) (hv : Sl w v p) (hl : p.length ≤ 1000) : Calls Try.prog 27 #[v, .int .i64 z] w (TkE w (atN p z).1 (atN p z).2) := by
  have hx := zeroTk
  have bn := buildTk0
  have hwf := allN_wf p
  have hle := allN_le p
  have herr := allN_err p
  have hP : atN p z = if (allN p).2 ≠ 0 then ([], (allN p).2) else if z < 0 ∨ ((allN p).1.length : Int) ≤ z then ([], 1) else allN p := rfl
  obtain ⟨Z, hZ⟩ : ∃ Z, Z = tkC (pad6 []) 0 := ⟨_, rfl⟩
  have zs : Z.size = 205 := by rw [hZ]; exact tkC_size (pad6_wf (fun _ h => nomatch h)) (pad6_len (by decide))
  have zo : Z.all (·.oneCell') = true := by rw [hZ]; exact tkC_one
  rw [← hZ] at hx bn
  have hzb : Below w.heap.size w (w.alloc (.cells Z 61)) := (Below.refl _ _).alloc (Nat.le_refl _) _
  have az := at_new w Z 61
  have al := ptake_any p v _ (hv.below hzb) hl
  obtain ⟨Y, hY⟩ : ∃ Y, Y = atN p z := ⟨_, rfl⟩
  rw [← hY] at hP ⊢
  obtain ⟨L, hL⟩ : ∃ L, L = (allN p).1 := ⟨_, rfl⟩
  obtain ⟨e, he⟩ : ∃ e, e = (allN p).2 := ⟨_, rfl⟩
  have hpair : allN p = (L, e) := by rw [hL, he]
  rw [hpair] at al hwf hle herr hP
  simp only at al hwf hle herr hP
  unfold TkE at al
  have cm : (tkC (pad6 L) L.length)[204]? = some (.int .i64 (L.length : Int)) := tkC_many (pad6_wf hwf) (pad6_len hle)
  have cs : (tkC (pad6 L) L.length).size = 205 := tkC_size (pad6_wf hwf) (pad6_len hle)
  have co : (tkC (pad6 L) L.length).all (·.oneCell') = true := tkC_one
  obtain ⟨C, hC⟩ : ∃ C, C = tkC (pad6 L) L.length := ⟨_, rfl⟩
  rw [← hC] at al cm cs co
  obtain ⟨n, hn⟩ : ∃ n, n = L.length := ⟨_, rfl⟩
  rw [← hn] at cm hP
  obtain ⟨aa, ac, rfl⟩ := sl_inv hv
  have AL := Lib.hid al; have HP := Lib.hid hP; have ERR := Lib.hid herr; have HZ := Lib.hid hZ; have ZS := Lib.hid zs; have ZO := Lib.hid zo; have BZ := Lib.hid hzb; have AZ := Lib.hid az; have BN := Lib.hid bn; have CM := Lib.hid cm; have CS := Lib.hid cs; have CO := Lib.hid co; have HC := Lib.hid hC
  clear al hP herr hZ zs zo hzb az bn cm cs co hC hY hL he hpair hv hwf hle hn
  go_enter Try.func27, Try.ntmps27
  go_upto_region 1 with fail
  obtain ⟨w1, hw1⟩ : ∃ w1, w1 = w.alloc (.cells Z 61) := ⟨_, rfl⟩
  rw [← hw1] at AL AZ BZ ⊢
  clear hw1
  go_wp2_with fail
  refine (AL.out).mono ?_
  rintro e2 w2 ⟨rfl, hb2⟩
  have B2 : Hid (Below w.heap.size w (w2.alloc (.cells C 61))) := Lib.hid ((BZ.out.trans (hb2.mono BZ.out.size)).alloc (Nat.le_trans BZ.out.size hb2.size) _)
  have A2 := Lib.hid ((AZ.out.below hb2 AZ.out.lt).alloc (.cells C 61))
  have C2 := Lib.hid (at_new w2 C 61)
  clear hb2
  go_upto_region 2 with (refine wpList_store_new (by rfl) 61 _ _ (by rfl) (by rfl) C _ _ (by rfl) (by rfl) (by rw [CS.out]; exact infoTk) (by rw [ZS.out, CS.out]) CO.out ?_)
  clear hx
  obtain ⟨l, hl⟩ : ∃ l, l = w2.heap.size := ⟨_, rfl⟩
  rw [← hl] at C2 ⊢
  clear hl
  generalize (w2.alloc (.cells C 61)) = w3 at *
  by_cases he : e = 0
  · subst he
    have cm : w3.cell? ⟨l, 204, none⟩ = some (.int .i64 (n : Int)) := (C2.out.cell 204).trans CM.out
    by_cases zg : z < 0 ∨ (n : Int) ≤ z
    · have hy : Y = ([], 1) := by rw [HP.out, if_neg (fun h => h rfl), if_pos zg]
      have HY := Lib.hid hy
      clear hy
      by_cases z0 : z < 0
      · clear zg
        go_wp2_with (first
          | (refine Mem.wpList_build (by rfl) 61 _ #[] (.agg Z) (by rfl) (by simp) BN.out ?_)
          | (refine wpList_store_all (by rfl) 61 _ _ (by rfl) (by rfl) w.heap.size Z (by rfl) (by rfl) (by rw [ZS.out]; exact infoTk) Z 61 A2.out (by rfl) ZO.out ?_))
        try simp only [Exit.inBlock, Exit.then]
        refine ret_row_tmp (by rfl) w.heap.size 61 Z _ _ (by rfl) (by rfl) (A2.out.row Z) Try.underlying61 (by rfl) (by rw [ZS.out]; exact infoTk) ?_
        exact ⟨by rw [HY.out, HZ.out]; rfl, below_row B2.out (Nat.le_refl _) Z⟩
      · have zn : (n : Int) ≤ z := by omega
        clear zg
        go_wp2_with (first
          | (refine Mem.wpList_build (by rfl) 61 _ #[] (.agg Z) (by rfl) (by simp) BN.out ?_)
          | (refine wpList_store_all (by rfl) 61 _ _ (by rfl) (by rfl) w.heap.size Z (by rfl) (by rfl) (by rw [ZS.out]; exact infoTk) Z 61 A2.out (by rfl) ZO.out ?_))
        try simp only [Exit.inBlock, Exit.then]
        refine ret_row_tmp (by rfl) w.heap.size 61 Z _ _ (by rfl) (by rfl) (A2.out.row Z) Try.underlying61 (by rfl) (by rw [ZS.out]; exact infoTk) ?_
        exact ⟨by rw [HY.out, HZ.out]; rfl, below_row B2.out (Nat.le_refl _) Z⟩
    · have hy : Y = (L, 0) := by rw [HP.out, if_neg (fun h => h rfl), if_neg zg]
      have z0 : ¬ z < 0 := by omega
      have zn : ¬ (n : Int) ≤ z := by omega
      have HY := Lib.hid hy
      clear hy zg
      go_wp2_with (first
        | (refine wpList_load_all (by rfl) 61 _ (by rfl) l (by rfl) _ Try.underlying61 (by rfl) C _ C2.out (by rw [CS.out]; exact infoTk) ?_)
        | (refine wpList_store_all (by rfl) 61 _ _ (by rfl) (by rfl) w.heap.size C (by rfl) (by rfl) (by rw [CS.out]; exact infoTk) Z 61 A2.out (by rw [CS.out, ZS.out]) CO.out ?_))
      try simp only [Exit.inBlock, Exit.then]
      refine ret_row_tmp (by rfl) w.heap.size 61 C _ _ (by rfl) (by rfl) (A2.out.row C) Try.underlying61 (by rfl) (by rw [CS.out]; exact infoTk) ?_
      exact ⟨by rw [HY.out, HC.out]; rfl, below_row B2.out (Nat.le_refl _) C⟩
  · have hy : Y = ([], e) := by rw [HP.out, if_pos he]
    have he9 : e = 1 ∨ e = 9 := by
      rcases ERR.out with h | ⟨_, h⟩
      · exact absurd h he
      · exact h
    have HY := Lib.hid hy
    clear hy he9
    go_wp2_with (first
      | (refine Mem.wpList_build (by rfl) 61 _ #[] (.agg Z) (by rfl) (by simp) BN.out ?_)
      | (refine wpList_store_all (by rfl) 61 _ _ (by rfl) (by rfl) w.heap.size Z (by rfl) (by rfl) (by rw [ZS.out]; exact infoTk) Z 61 A2.out (by rfl) ZO.out ?_))
    try simp only [Exit.inBlock, Exit.then]
    refine ret_row_tmp (by rfl) w.heap.size 61 Z _ _ (by rfl) (by rfl) (A2.out.row Z) Try.underlying61 (by rfl) (by rw [ZS.out]; exact infoTk) ?_
    exact ⟨by rw [HY.out, HZ.out]; rfl, below_row B2.out (Nat.le_refl _) Z⟩
set_option maxHeartbeats 1000000 in
theorem pgetN_any (p : List (BitVec 8)) (z : Int) (v : Value) (w : World) (hv : Sl w v p) (hl : p.length ≤ 1000) : Calls Try.prog 14 #[v, .int .i64 z] w (RNEnd (getN p z).1 (getN p z).2 w) := by
  have hx := zeroRfP
  have hxt := zeroTk
  have bn := buildPf0
  have hwf := allN_wf p
  have hle := allN_le p
  have hP := atN_get p z
  have hok := @atN_ok p z
  have hbad := @atN_bad p z
  have hzb : Below w.heap.size w (w.alloc (.cells (refC zref) 42)) := (Below.refl _ _).alloc (Nat.le_refl _) _
  have az := at_new w (refC zref) 42
  have al := takeAt_any p z v _ (hv.below hzb) hl
  have zs := refC_size zref_wf
  have zo := refC_one zref
  obtain ⟨Z, hZ⟩ : ∃ Z, Z = refC zref := ⟨_, rfl⟩
  rw [← hZ] at al az hx bn zs zo hzb
  obtain ⟨T, hT⟩ : ∃ Z, Z = tkC (pad6 []) 0 := ⟨_, rfl⟩
  have ts : T.size = 205 := by rw [hT]; exact tkC_size (pad6_wf (fun _ h => nomatch h)) (pad6_len (by decide))
  rw [← hT] at hxt
  obtain ⟨Y, hY⟩ : ∃ Y, Y = getN p z := ⟨_, rfl⟩
  rw [← hY] at hP ⊢
  obtain ⟨L, hL⟩ : ∃ L, L = (atN p z).1 := ⟨_, rfl⟩
  obtain ⟨e, he⟩ : ∃ e, e = (atN p z).2 := ⟨_, rfl⟩
  have hlw : (∀ r ∈ L, r.Wf) ∧ L.length ≤ 6 := by
    by_cases h : (atN p z).2 = 0
    · rw [hL, (hok h).1]; exact ⟨hwf, hle⟩
    · rw [hL, hbad h]; exact ⟨fun _ h => (nomatch h), by decide⟩
  have hgood : e = 0 → Y = (L.getD z.toNat zref, 0) ∧ 0 ≤ z ∧ z < (L.length : Int) := fun h => by
    rw [he] at h
    obtain ⟨h1, h2⟩ := hok h
    rw [hP, if_neg (fun g => g h), hL, h1]
    exact ⟨rfl, h2⟩
  have hno : e ≠ 0 → Y = (zref, e) := fun h => by rw [hP, ← he, if_pos h]
  rw [← hL, ← he] at al
  unfold TkE at al
  obtain ⟨hw, h6⟩ := hlw
  have cs : (tkC (pad6 L) L.length).size = 205 := tkC_size (pad6_wf hw) (pad6_len h6)
  have co : (tkC (pad6 L) L.length).all (·.oneCell') = true := tkC_one
  have hrg : ∀ wx b i t, At wx b (tkC (pad6 L) L.length) t → i < L.length → wx.rangeAt b (i * 34) (refL (L.getD i zref)) := fun wx b i t h hi => by
    have g := tk_range h (pad6_wf hw) (pad6_len h6) (i := i) (by omega)
    rwa [pad6_get hi] at g
  obtain ⟨C, hC⟩ : ∃ C, C = tkC (pad6 L) L.length := ⟨_, rfl⟩
  rw [← hC] at al cs co hrg
  obtain ⟨aa, ac, rfl⟩ := sl_inv hv
  have AL := Lib.hid al; have GOOD := Lib.hid hgood; have NO := Lib.hid hno; have HZ := Lib.hid hZ; have ZS := Lib.hid zs; have ZO := Lib.hid zo; have BZ := Lib.hid hzb; have AZ := Lib.hid az; have BN := Lib.hid bn; have CS := Lib.hid cs; have CO := Lib.hid co; have TS := Lib.hid ts; have RG := Lib.hid hrg; have HW := Lib.hid hw
  clear al hgood hno hZ zs zo hzb az bn cs co ts hrg hw hC hT hY hL he hv hwf hle hP hok hbad
  go_enter Try.func14, Try.ntmps14
  go_upto_region 1 with fail
  clear hx
  have hx := hxt
  clear hxt
  obtain ⟨w1, hw1⟩ : ∃ w1, w1 = w.alloc (.cells Z 42) := ⟨_, rfl⟩
  rw [← hw1] at AL AZ BZ ⊢
  clear hw1
  go_wp2_with fail
  refine (AL.out).mono ?_
  rintro e2 w2 ⟨rfl, hb2⟩
  have B2 : Hid (Below w.heap.size w (w2.alloc (.cells C 61))) := Lib.hid ((BZ.out.trans (hb2.mono BZ.out.size)).alloc (Nat.le_trans BZ.out.size hb2.size) _)
  have A2 := Lib.hid ((AZ.out.below hb2 AZ.out.lt).alloc (.cells C 61))
  have C2 := Lib.hid (at_new w2 C 61)
  clear hb2
  go_upto_region 2 with (refine wpList_store_new (by rfl) 61 _ _ (by rfl) (by rfl) C _ _ (by rfl) (by rfl) (by rw [CS.out]; exact infoTk) (by rw [TS.out, CS.out]) CO.out ?_)
  clear hx
  obtain ⟨l, hl⟩ : ∃ l, l = w2.heap.size := ⟨_, rfl⟩
  rw [← hl] at C2 ⊢
  clear hl
  generalize (w2.alloc (.cells C 61)) = w3 at *
  by_cases he : e = 0
  · obtain ⟨hy, h0, hn⟩ := GOOD.out he
    subst he
    obtain ⟨i, rfl⟩ : ∃ i : Nat, z = (i : Int) := ⟨z.toNat, by omega⟩
    rw [Int.toNat_natCast] at hy
    have hin : i < L.length := by omega
    have hi6 : (i : Int) < 6 := by omega
    have hi7 : i < 6 := by omega
    have hr := RG.out w3 l i _ C2.out hin
    have hwi := getD_wf HW.out i
    obtain ⟨r, hr0⟩ : ∃ r, r = L.getD i zref := ⟨_, rfl⟩
    rw [← hr0] at hy hr hwi
    have rs := refC_size hwi; have ro := refC_one r
    have HY := Lib.hid hy; have RR := Lib.hid hr; have WI := Lib.hid hwi; have RSZ := Lib.hid rs; have RO := Lib.hid ro
    clear hy hr hwi hr0 rs ro hn hin h6
    go_wp2_with (first
      | (refine wpList_load_rf (by rfl) 42 _ (by rfl) l (i * 34) (by rfl) r WI.out RR.out _ Try.underlying42 (by rfl) infoRfP ?_)
      | (refine wpList_store_all (by rfl) 42 _ _ (by rfl) (by rfl) w.heap.size (refC r) (by rfl) (by rfl) (by rw [RSZ.out]; exact infoRfP) Z 42 A2.out (by rw [RSZ.out, ZS.out]) RO.out ?_))
    try simp only [Exit.inBlock, Exit.then]
    refine ret_row_tmp (by rfl) w.heap.size 42 (refC r) _ _ (by rfl) (by rfl) (A2.out.row (refC r)) Try.underlying42 (by rfl) (by rw [RSZ.out]; exact infoRfP) ?_
    exact ⟨by rw [HY.out]; rfl, below_row B2.out (Nat.le_refl _) (refC r)⟩
  · have HY := Lib.hid (NO.out he)
    go_wp2_with (first
      | (refine Mem.wpList_build (by rfl) 42 _ #[] (.agg Z) (by rfl) (by simp) BN.out ?_)
      | (refine wpList_store_all (by rfl) 42 _ _ (by rfl) (by rfl) w.heap.size Z (by rfl) (by rfl) (by rw [ZS.out]; exact infoRfP) Z 42 A2.out (by rfl) ZO.out ?_))
    try simp only [Exit.inBlock, Exit.then]
    refine ret_row_tmp (by rfl) w.heap.size 42 Z _ _ (by rfl) (by rfl) (A2.out.row Z) Try.underlying42 (by rfl) (by rw [ZS.out]; exact infoRfP) ?_
    exact ⟨by rw [HY.out, HZ.out]; rfl, below_row B2.out (Nat.le_refl _) Z⟩
end Sha
end Go.Proofs.Ytfbhbdllbapnpaa
namespace Go.Proofs.Ytfbhbdllbapnpaa
namespace Sha
open Go.RowKit Mem
set_option maxRecDepth 100000
theorem isPlace_any (z : Int) (w : World) : Calls Try.prog 21 #[.int .i64 z] w fun e w' => e = .returned (.bool (decide (0 ≤ z ∧ z ≤ 1))) ∧ w' = w := by
  by_cases h1 : 0 ≤ z
  · by_cases h6 : z ≤ 1
    · rw [decide_eq_true ⟨h1, h6⟩]
      go_enter Try.func21, Try.ntmps21
      go_wp2_with fail
      go_ret
      exact ⟨rfl, rfl⟩
    · rw [decide_eq_false (fun h => h6 h.2)]
      go_enter Try.func21, Try.ntmps21
      go_wp2_with fail
      go_ret
      exact ⟨rfl, rfl⟩
  · rw [decide_eq_false (fun h => h1 h.1)]
    go_enter Try.func21, Try.ntmps21
    go_wp2_with fail
    go_ret
    exact ⟨rfl, rfl⟩
theorem body_first (L : List RefV) : ([] : List (BitVec 8)) ++ nbytes L.length 1 = bodyN L 0 := by
  simp [bodyN, nbytes, nbyte, List.range_succ]
set_option maxHeartbeats 2000000 in
theorem play13_many (L : List RefV) (v : Value) (w : World) (hv : SlRf w v L) (hw : ∀ r ∈ L, r.Wf) (h1 : 1 ≤ L.length) (h6 : L.length ≤ 6) : Calls Try.prog 8 #[v] w (SealEnd w (layN L).1 (layN L).2) := by
  have hgood := layN_good h1 h6
  have hbad := fun i hi h => layN_place (L := L) i hi h
  obtain ⟨Y, hY⟩ : ∃ Y, Y = layN L := ⟨_, rfl⟩
  rw [← hY] at hgood hbad ⊢
  have hgw := fun i => getD_wf hw i
  have hrl := fun i wx => play9_any (L.getD i zref) (hgw i) wx
  have hrll := fun i => layRf_length (hgw i)
  have hbl := fun i (hi : i ≤ L.length) => bodyN_length L i hw hi
  have hbs := fun i (hi : i < L.length) => bodyN_succ L i hi
  have hfill : ∀ u wx, Sl wx u (bodyN L L.length) → Calls Try.prog 23 #[u, .int .i64 256] wx (TwoOwn wx (bodyN L L.length ++ List.replicate (256 - (1 + 37 * L.length)) 0) 0) := fun u wx h => by
    have hf := pfill_own (bodyN L L.length) 256 u wx h (by rw [hbl _ (Nat.le_refl _)]; omega) (by decide)
    unfold fillB at hf
    rw [hbl _ (Nat.le_refl _)] at hf
    exact hf
  have hnum := fun u wx h => num1_any [] L.length u wx h (by decide) (by omega)
  rw [body_first] at hnum
  obtain ⟨F, hF⟩ : ∃ F, F = bodyN L L.length ++ List.replicate (256 - (1 + 37 * L.length)) 0 := ⟨_, rfl⟩
  rw [← hF] at hgood hfill
  have hb0 : (bodyN L 0).length = 1 := hbl 0 (Nat.zero_le _)
  obtain ⟨a, c, rfl⟩ := hv.hd
  obtain ⟨n, hn⟩ : ∃ n, n = L.length := ⟨_, rfl⟩
  rw [← hn] at hv h1 h6 hgood hbad hbl hbs hfill hnum ⊢
  have im := fun wx => isMany_any (n : Int) wx
  rw [decide_eq_true (⟨by omega, by omega⟩ : 1 ≤ (n : Int) ∧ (n : Int) ≤ 6)] at im
  have cv := fun wx => conv_iu64 (n : Int) n (by omega) wx
  have zsz : (refC zref).size = 34 := refC_size zref_wf
  have hx0 := zeroRfP
  obtain ⟨Z, hZ⟩ : ∃ Z, Z = refC zref := ⟨_, rfl⟩
  rw [← hZ] at zsz hx0
  have HV := Lib.hid hv; have GOOD := Lib.hid hgood; have BAD := Lib.hid hbad; have GW := Lib.hid hgw; have RL := Lib.hid hrl; have RLL := Lib.hid hrll; have HN := Lib.hid hn; have BL := Lib.hid hbl; have BS := Lib.hid hbs; have FILL := Lib.hid hfill; have NUM := Lib.hid hnum; have ZSZ := Lib.hid zsz; have HX := Lib.hid hx0; have IM := Lib.hid im; have CV := Lib.hid cv; have B0 := Lib.hid hb0
  clear hv hgood hbad hgw hrl hrll hn hbl hbs hfill hnum hF hY hw zsz hx0 hZ im cv hb0
  go_enter Try.func8, Try.ntmps8
  go_wp2_with fail
  refine (IM.out _).mono ?_
  rintro e w1 ⟨rfl, rfl⟩
  go_wp2_with (refine wpList_conv (by rfl) _ _ _ _ (.int .u64 (n : Int)) (by rfl) (by rfl) CV.out ?_)
  refine (NUM.out _ _ (sl_none _)).mono ?_
  rintro e w3 ⟨g, rfl, ha, hg, hb⟩
  have B3 := Lib.hid hb
  have O3 : Hid (OwnB w3 w1.heap.size (.slice (some ⟨g, 0, none⟩) 1 1) (bodyN L 0)) := Lib.hid (by
    have h := own_fulls ha hg (by rw [B0.out]; decide)
    rw [B0.out] at h
    exact h)
  rw [B0.out]
  clear ha hg hb
  go_upto_region 5 with fail
  go_loopw [4, 17] (fun vb vi wr => ∃ i : Nat, i ≤ n ∧ vi = .int .i64 (i : Int) ∧ OwnB wr w1.heap.size vb (bodyN L i) ∧ (∀ k, k < i → plOk (L.getD k zref) = true) ∧ Below w1.heap.size w1 wr) (fun _ vi _ => n - (intOf vi).toNat)
  case atStart => exact ⟨0, by omega, rfl, O3.out, fun k hk => by omega, B3.out⟩
  case round =>
    obtain ⟨i, hi, rfl, ho, hpl, hbw⟩ := hrel
    have OW := Lib.hid ho; have BW := Lib.hid hbw; have PL := Lib.hid hpl; have VW := Lib.hid (HV.out.below hbw)
    clear ho hbw hpl
    by_cases hlt : i < n
    · have hlt2 : (i : Int) < (n : Int) := by omega
      obtain ⟨b, o, ea, _, hr⟩ := slrf_at (i := i) VW.out HN.out hlt
      subst ea
      have hok : plOk (L.getD i zref) = decide (0 ≤ (L.getD i zref).pl ∧ (L.getD i zref).pl ≤ 1) := rfl
      have hwi := GW.out i
      have hrli := RL.out i
      have hrll := RLL.out i
      have hbd := BAD.out i hlt
      have hbs := BS.out i hlt
      have hbl := BL.out i hi
      obtain ⟨r, hr0⟩ : ∃ r, r = L.getD i zref := ⟨_, rfl⟩
      have hgi : plOk r = true → ∀ k, k < i + 1 → plOk (L.getD k zref) = true := fun h k hk => by
        rcases Nat.lt_or_ge k i with x | x
        · exact PL.out k x
        · rw [show k = i by omega, ← hr0]; exact h
      rw [← hr0] at hr hok hwi hrli hrll hbd hbs
      have rc0 := ref0 r
      have ip := fun wx => isPlace_any r.pl wx
      rw [← hok] at ip
      obtain ⟨pl, hp⟩ : ∃ pl, pl = r.pl := ⟨_, rfl⟩
      rw [← hp] at rc0 ip
      obtain ⟨q, hq⟩ : ∃ q, q = plOk r := ⟨_, rfl⟩
      rw [← hq] at ip hbd hgi
      have msz := refC_size hwi; have mone := refC_one r
      obtain ⟨M, hM⟩ : ∃ M, M = refC r := ⟨_, rfl⟩
      have hrg : wr.rangeAt b (o + i * 34) M.toList := by rw [hM]; exact hr
      rw [← hM] at rc0 msz mone hrli
      have RLI := Lib.hid hrli; have HBD := Lib.hid hbd; have HGI := Lib.hid hgi; have HRL := Lib.hid hrll; have HBS := Lib.hid hbs; have HBL := Lib.hid hbl; have RC0 := Lib.hid rc0; have MSZ := Lib.hid msz; have MONE := Lib.hid mone; have RG := Lib.hid hrg; have IP := Lib.hid ip
      have hb5 : Below wr.heap.size wr (wr.alloc (.cells M 42)) := (Below.refl _ _).alloc (Nat.le_refl _) _
      have A5 := Lib.hid (at_new wr M 42); have O5 := Lib.hid (ownsRow_below OW.out hb5); have B5 := Lib.hid (BW.out.alloc BW.out.size (.cells M 42))
      clear hr hok hrli hrll hbd hbs hbl hr0 hgi hp rc0 msz mone hM hrg hb5 hwi ip hq
      have hx := HX.out
      go_upto_region 7 with (first
        | (refine wpList_load_mid (by rfl) 42 _ (by rfl) b (o + i * 34) (by rfl) M.toList _ RG.out Try.underlying42 (by rfl) (by rw [infoRfP, Array.length_toList, MSZ.out]) ?_; rw [Array.toArray_toList])
        | (refine wpList_store_new (by rfl) 42 _ _ (by rfl) (by rfl) M _ _ (by rfl) (by rfl) (by rw [MSZ.out]; exact infoRfP) (by rw [MSZ.out, ZSZ.out]) MONE.out ?_))
      clear hx
      obtain ⟨l, hl⟩ : ∃ l, l = wr.heap.size := ⟨_, rfl⟩
      rw [← hl] at A5 ⊢
      clear hl
      generalize (wr.alloc (.cells M 42)) = w5 at *
      have cp : w5.cell? ⟨l, 0, none⟩ = some (.int .i64 pl) := (A5.out.cell 0).trans RC0.out
      go_wp2_with fail
      refine (IP.out _).mono ?_
      rintro e w6 ⟨rfl, rfl⟩
      clear cp
      cases q
      · have HY := Lib.hid (HBD.out rfl)
        go_wp2_with fail
        go_ret2
        exact ⟨_, by rw [HY.out]; rfl, by rw [HY.out]; exact sl_none _, B5.out⟩
      · have HG2 := Lib.hid (HGI.out rfl)
        go_wp2_with (refine wpList_load_all (by rfl) 42 _ (by rfl) l (by rfl) _ Try.underlying42 (by rfl) M _ A5.out (by rw [MSZ.out]; exact infoRfP) ?_)
        refine (RLI.out _).mono ?_
        rintro e w7 ⟨v7, rfl, hs7, hb7⟩
        have S7 := Lib.hid hs7; have O7 := Lib.hid (ownsRow_below O5.out hb7); have B7 : Hid (Below w1.heap.size w1 w7) := Lib.hid (B5.out.trans (hb7.mono B5.out.size))
        clear hs7 hb7
        go_wp2_with (at_builtin; go_loud (refine wpList_append_bytes (by rfl) _ _ (by rfl) w1.heap.size u4 v7 (bodyN L i) (layRf r) (by rfl) O7.out (by rfl) S7.out (by rw [HBL.out, HRL.out]; omega) B7.out.size ?_); intro v9 w9 ho9 _ hb9; have O9 : Hid (OwnB w9 w1.heap.size v9 (bodyN L (i + 1))) := Lib.hid (by rw [HBS.out]; exact ho9); have B9 := Lib.hid (B7.out.trans hb9); clear ho9 hb9)
        go_roundw
        case rel => exact ⟨i + 1, by omega, by go_num, O9.out, HG2.out, B9.out⟩
        case measure => simp [intOf]; omega
    · have hin : i = n := by omega
      subst hin
      have hge : ¬ (i : Int) < (i : Int) := by omega
      have HY := Lib.hid (GOOD.out PL.out)
      have SW := Lib.hid OW.out.sl
      go_wp2_with fail
      refine (FILL.out _ _ SW.out).mono ?_
      rintro e w6 ⟨g6, rfl, ha6, _, hb6⟩
      have S6 := Lib.hid (at_sl ha6 rfl); have B6 : Hid (Below w1.heap.size w1 w6) := Lib.hid (BW.out.trans (hb6.mono BW.out.size))
      clear ha6 hb6
      go_wp2_with fail
      go_ret2
      exact ⟨_, by rw [HY.out]; rfl, by rw [HY.out]; exact S6.out, B6.out⟩
set_option maxHeartbeats 1000000 in
theorem play13_any (L : List RefV) (v : Value) (w : World) (hv : SlRf w v L) (hw : ∀ r ∈ L, r.Wf) : Calls Try.prog 8 #[v] w (SealEnd w (layN L).1 (layN L).2) := by
  by_cases h : 1 ≤ L.length ∧ L.length ≤ 6
  · exact play13_many L v w hv hw h.1 h.2
  · have hy : layN L = ([], 1) := layN_few (by omega)
    obtain ⟨Y, hY⟩ : ∃ Y, Y = layN L := ⟨_, rfl⟩
    rw [← hY] at hy ⊢
    obtain ⟨a, c, rfl⟩ := hv.hd
    obtain ⟨n, hn⟩ : ∃ n, n = L.length := ⟨_, rfl⟩
    rw [← hn] at h ⊢
    have im := isMany_any (n : Int) w
    rw [decide_eq_false (fun g : 1 ≤ (n : Int) ∧ (n : Int) ≤ 6 => h (by omega))] at im
    have HY := Lib.hid hy; have IM := Lib.hid im
    clear hy hY hv hw h hn im
    go_enter Try.func8, Try.ntmps8
    go_wp2_with fail
    refine IM.out.mono ?_
    rintro e w1 ⟨rfl, rfl⟩
    go_wp2_with fail
    go_ret2
    exact ⟨_, by rw [HY.out]; rfl, by rw [HY.out]; exact sl_none _, Below.refl _ _⟩
end Sha
end Go.Proofs.Ytfbhbdllbapnpaa
namespace Go.Proofs.Ytfbhbdllbapnpaa
namespace Sha
open Go.RowKit Mem
set_option maxRecDepth 100000
set_option maxHeartbeats 1000000 in
theorem pparse13_any (p : List (BitVec 8)) (z : Int) (v : Value) (w : World) (hv : Sl w v p) (hl : p.length ≤ 1000) : Calls Try.prog 12 #[v, .int .i64 z] w (RfEnd w (parseN p z).1 (parseN p z).2) := by
  have al := ptake_any p v w hv hl
  have hwf := allN_wf p
  have hle := allN_le p
  have herr := allN_err p
  have hP : parseN p z = if z < 1 ∨ 6 < z then ([], 1) else if (allN p).2 = 0 ∧ ((allN p).1.length : Int) ≠ z then ([], 9) else allN p := rfl
  obtain ⟨Y, hY⟩ : ∃ Y, Y = parseN p z := ⟨_, rfl⟩
  rw [← hY] at hP ⊢
  obtain ⟨L, hL⟩ : ∃ L, L = (allN p).1 := ⟨_, rfl⟩
  obtain ⟨e, he⟩ : ∃ e, e = (allN p).2 := ⟨_, rfl⟩
  have hpair : allN p = (L, e) := by rw [hL, he]
  rw [hpair] at al hwf hle herr hP
  simp only at al hwf hle herr hP
  by_cases hz : 1 ≤ z ∧ z ≤ 6
  · have im := isMany_any z w
    rw [decide_eq_true hz] at im
    obtain ⟨i2, hi2, hz2, hs2, hb2⟩ := info_parts rfRP
    have hxt := zeroTk
    obtain ⟨T, hT⟩ : ∃ Z, Z = tkC (pad6 []) 0 := ⟨_, rfl⟩
    have ts : T.size = 205 := by rw [hT]; exact tkC_size (pad6_wf (fun _ h => nomatch h)) (pad6_len (by decide))
    rw [← hT] at hxt
    unfold TkE at al
    have cm : (tkC (pad6 L) L.length)[204]? = some (.int .i64 (L.length : Int)) := tkC_many (pad6_wf hwf) (pad6_len hle)
    have cs : (tkC (pad6 L) L.length).size = 205 := tkC_size (pad6_wf hwf) (pad6_len hle)
    have co : (tkC (pad6 L) L.length).all (·.oneCell') = true := tkC_one
    have hsl : ∀ wx b t, At wx b (tkC (pad6 L) L.length) t → SlRf wx (.slice (some ⟨b, 0, none⟩) 6 6) (pad6 L) := fun wx b t h => by
      have g := tk_sl (m := 6) (c := 6) h (pad6_wf hwf) (pad6_len hle) (by decide)
      have e6 : (pad6 L).take 6 = pad6 L := List.take_of_length_le (by rw [pad6_len hle]; decide)
      rwa [e6] at g
    have hpl := pad6_len hle
    have hpw := pad6_wf hwf
    have hpt := pad6_take L
    obtain ⟨C, hC⟩ : ∃ C, C = tkC (pad6 L) L.length := ⟨_, rfl⟩
    rw [← hC] at al cm cs co hsl
    obtain ⟨K, hK⟩ : ∃ K, K = pad6 L := ⟨_, rfl⟩
    rw [← hK] at hsl hpl hpw hpt
    obtain ⟨n, hn⟩ : ∃ n, n = L.length := ⟨_, rfl⟩
    rw [← hn] at cm hP hpt hle
    have AL := Lib.hid al; have WF := Lib.hid hwf; have HP := Lib.hid hP; have ERR := Lib.hid herr; have IM := Lib.hid im; have TS := Lib.hid ts; have CM := Lib.hid cm; have CS := Lib.hid cs; have CO := Lib.hid co; have HSL := Lib.hid hsl; have HPL := Lib.hid hpl; have HPW := Lib.hid hpw; have HPT := Lib.hid hpt; have HN := Lib.hid hn
    have I2 := Lib.hid hi2; have Z2 := Lib.hid hz2; have S2 := Lib.hid hs2; have B2i := Lib.hid hb2
    clear al hwf hP herr hY hL he hpair hv im ts cm cs co hsl hpl hpw hpt hC hK hT hi2 hz2 hs2 hb2 hl hn
    have hx := hxt
    clear hxt
    go_enter Try.func12, Try.ntmps12
    go_wp2_with fail
    refine IM.out.mono ?_
    rintro e1 w1 ⟨rfl, rfl⟩
    go_wp2_with fail
    refine (AL.out).mono ?_
    rintro e2 w2 ⟨rfl, hb2⟩
    have B2 : Hid (Below w1.heap.size w1 (w2.alloc (.cells C 61))) := Lib.hid (hb2.alloc hb2.size _)
    have C2 := Lib.hid (at_new w2 C 61)
    clear hb2
    go_upto_region 4 with (refine wpList_store_new (by rfl) 61 _ _ (by rfl) (by rfl) C _ _ (by rfl) (by rfl) (by rw [CS.out]; exact infoTk) (by rw [TS.out, CS.out]) CO.out ?_)
    clear hx
    obtain ⟨l, hl⟩ : ∃ l, l = w2.heap.size := ⟨_, rfl⟩
    rw [← hl] at C2 ⊢
    clear hl
    generalize (w2.alloc (.cells C 61)) = w3 at *
    rcases ERR.out with h0 | ⟨h0, he⟩
    · subst h0
      have cm : w3.cell? ⟨l, 204, none⟩ = some (.int .i64 (n : Int)) := (C2.out.cell 204).trans CM.out
      by_cases hnz : (n : Int) = z
      · have hy : Y = (L, 0) := by rw [HP.out, if_neg (by omega), if_neg (fun x => x.2 hnz)]
        have HY := Lib.hid hy
        clear hy
        subst hnz
        have h1n : 0 < n := by omega
        go_upto_region 9 with (refine wpList_make_full _ (by rfl) _ _ 28 (by rfl) w1.heap.size 42 i2 (.agg (refC zref)) 34 Try.underlying28 I2.out Z2.out S2.out .i64 .i64 (n : Int) (n : Int) n (by rfl) (by rfl) (by rfl) (by rfl) (by rw [B2i.out]; omega) (by simp [maxLen]; omega) B2.out.size ?_; intro w4 ho4 hg4; have O4 := Lib.hid ho4; have B4 : Hid (Below w1.heap.size w1 w4) := Lib.hid (B2.out.grown hg4 B2.out.size (fun k e => by cases e)); have C4 := Lib.hid (C2.out.below ((Below.refl w3.heap.size w3).grown hg4 (Nat.le_refl _) (fun k e => by cases e)) C2.out.lt); have G4 := Lib.hid B2.out.size; clear ho4 hg4)
        clear cm
        obtain ⟨g, hg⟩ : ∃ g, g = w3.heap.size := ⟨_, rfl⟩
        rw [← hg] at O4 G4 ⊢
        clear hg
        have SL4 := Lib.hid (HSL.out _ _ _ C4.out)
        go_upto_region 10 with (first
          | (refine wpList_cut_all (by rfl) 59 _ (by rfl) 6 42 Try.underlying59 34 infoRfP l 0 (by rfl) ?_)
          | (refine wpList_copy_rfn (by rfl) _ _ 28 28 (by rfl) 42 Try.underlying28 infoRfP w1.heap.size 42 n g n _ O4.out (by rfl) (some ⟨l, 0, none⟩) 6 6 (by rfl) K SL4.out HPL.out.symm hle h1n HPW.out ?_; intro w5 ho5 hz5 hh5 hb5; have B5 : Hid (Below w1.heap.size w1 w5) := Lib.hid (hb5 _ _ B4.out G4.out); have O5 : Hid (OwnRf w5 w1.heap.size 42 (.slice (some ⟨g, 0, none⟩) n n) L) := Lib.hid (by rw [HPT.out] at ho5; show w5.ownsRow _ _ _ _ L.length _; rw [← HN.out]; exact ho5); clear ho5 hz5 hh5 hb5))
        go_wp2_with fail
        go_ret2
        exact ⟨_, by rw [HY.out]; rfl, by rw [HY.out]; exact own_slrf O5.out WF.out, B5.out⟩
      · have hy : Y = ([], 9) := by rw [HP.out, if_neg (by omega), if_pos ⟨rfl, hnz⟩]
        have HY := Lib.hid hy
        clear hy
        go_wp2_with fail
        go_ret2
        exact ⟨_, by rw [HY.out]; rfl, by rw [HY.out]; exact SlRf.nil _, B2.out⟩
    · have hne : ¬ e = 0 := by rcases he with h | h <;> omega
      have hy : Y = ([], e) := by rw [HP.out, if_neg (by omega), if_neg (fun x => hne x.1), h0]
      have HY := Lib.hid hy
      clear hy he h0
      go_wp2_with fail
      go_ret2
      exact ⟨_, by rw [HY.out]; rfl, by rw [HY.out]; exact SlRf.nil _, B2.out⟩
  · have im := isMany_any z w
    rw [decide_eq_false hz] at im
    have hy : Y = ([], 1) := by rw [hP, if_pos (by omega)]
    have HY := Lib.hid hy; have IM := Lib.hid im
    clear hy im al hwf hP herr hY hL he hpair hv hl hle hz
    go_enter Try.func12, Try.ntmps12
    go_wp2_with fail
    refine IM.out.mono ?_
    rintro e1 w1 ⟨rfl, rfl⟩
    go_wp2_with fail
    go_ret2
    exact ⟨_, by rw [HY.out]; rfl, by rw [HY.out]; exact SlRf.nil _, Below.refl _ _⟩
theorem atN_set (p : List (BitVec 8)) (z : Int) (r : RefV) : setN p z r = if (atN p z).2 ≠ 0 then ([], (atN p z).2) else layN ((allN p).1.set z.toNat r) := by
  unfold setN
  rw [atN_get]
  by_cases h : (atN p z).2 = 0
  · simp [h]
  · simp [h]
set_option maxHeartbeats 1000000 in
theorem pset13_any (p : List (BitVec 8)) (z : Int) (r : RefV) (hr : r.Wf) (v : Value) (w : World) (hv : Sl w v p) (hl : p.length ≤ 1000) : Calls Try.prog 16 #[v, .int .i64 z, .agg (refC r)] w (SealEnd w (setN p z r).1 (setN p z r).2) := by
  have rb : Below w.heap.size w (w.alloc (.cells (refC r) 42)) := (Below.refl _ _).alloc (Nat.le_refl _) _
  have ra := at_new w (refC r) 42
  have al := takeAt_any p z v _ (hv.below rb) hl
  have rs := refC_size hr; have ro := refC_one r
  have hwf := allN_wf p
  have hle := allN_le p
  have hP := atN_set p z r
  have hok := @atN_ok p z
  have hbad := @atN_bad p z
  have hxt := zeroTk
  obtain ⟨T, hT⟩ : ∃ Z, Z = tkC (pad6 []) 0 := ⟨_, rfl⟩
  have ts : T.size = 205 := by rw [hT]; exact tkC_size (pad6_wf (fun _ h => nomatch h)) (pad6_len (by decide))
  rw [← hT] at hxt
  obtain ⟨Y, hY⟩ : ∃ Y, Y = setN p z r := ⟨_, rfl⟩
  rw [← hY] at hP ⊢
  obtain ⟨L, hL⟩ : ∃ L, L = (atN p z).1 := ⟨_, rfl⟩
  obtain ⟨e, he⟩ : ∃ e, e = (atN p z).2 := ⟨_, rfl⟩
  have hlw : (∀ r ∈ L, r.Wf) ∧ L.length ≤ 6 := by
    by_cases h : (atN p z).2 = 0
    · rw [hL, (hok h).1]; exact ⟨hwf, hle⟩
    · rw [hL, hbad h]; exact ⟨fun _ h => (nomatch h), by decide⟩
  have hgood : e = 0 → Y = layN (L.set z.toNat r) ∧ 0 ≤ z ∧ z < (L.length : Int) := fun h => by
    rw [he] at h
    obtain ⟨h1, h2⟩ := hok h
    rw [hP, if_neg (fun g => g h), hL, h1]
    exact ⟨rfl, h2⟩
  have hno : e ≠ 0 → Y = ([], e) := fun h => by rw [hP, ← he, if_pos h]
  rw [← hL, ← he] at al
  unfold TkE at al
  obtain ⟨hw, h6⟩ := hlw
  have cs : (tkC (pad6 L) L.length).size = 205 := tkC_size (pad6_wf hw) (pad6_len h6)
  have co : (tkC (pad6 L) L.length).all (·.oneCell') = true := tkC_one
  have hsp : ∀ i, i < L.length → Mem.splice (tkC (pad6 L) L.length) (i * 34) (refL r) = tkC (pad6 (L.set i r)) L.length := fun i hi => by
    rw [tkC_set (pad6_wf hw) (pad6_len h6) hr (by omega), pad6_at r hi]
  have hws : ∀ i, ∀ x ∈ L.set i r, x.Wf := fun i x hx => by
    rcases List.mem_or_eq_of_mem_set hx with a | a
    · exact hw x a
    · rw [a]; exact hr
  have hls : ∀ i, (L.set i r).length ≤ 6 := fun i => by rw [List.length_set]; exact h6
  have hcm : ∀ i, (tkC (pad6 (L.set i r)) L.length)[204]? = some (.int .i64 (L.length : Int)) := fun i => tkC_many (pad6_wf (hws i)) (pad6_len (hls i))
  have hlay : ∀ i wx b t, At wx b (tkC (pad6 (L.set i r)) L.length) t → Calls Try.prog 8 #[.slice (some ⟨b, 0, none⟩) L.length 6] wx (SealEnd wx (layN (L.set i r)).1 (layN (L.set i r)).2) := fun i wx b t h => by
    have g := tk_sl (m := L.length) (c := 6) h (pad6_wf (hws i)) (pad6_len (hls i)) h6
    have e6 := pad6_take (L.set i r)
    rw [List.length_set] at e6
    rw [e6] at g
    exact play13_any (L.set i r) _ wx g (hws i)
  obtain ⟨C, hC⟩ : ∃ C, C = tkC (pad6 L) L.length := ⟨_, rfl⟩
  rw [← hC] at al cs co hsp
  obtain ⟨M, hM⟩ : ∃ M, M = refC r := ⟨_, rfl⟩
  rw [← hM] at rb ra rs ro al ⊢
  have hrl : (refL r) = M.toList := by rw [hM]; rfl
  rw [hrl] at hsp
  obtain ⟨n, hn⟩ : ∃ n, n = L.length := ⟨_, rfl⟩
  rw [← hn] at hgood hsp hcm hlay h6
  obtain ⟨aa, ac, rfl⟩ := sl_inv hv
  have RB := Lib.hid rb; have RA := Lib.hid ra; have AL := Lib.hid al; have RS := Lib.hid rs; have RO := Lib.hid ro; have GOOD := Lib.hid hgood; have NO := Lib.hid hno; have CS := Lib.hid cs; have CO := Lib.hid co; have SP := Lib.hid hsp; have CM := Lib.hid hcm; have LAY := Lib.hid hlay; have TS := Lib.hid ts
  clear rb ra al rs ro hgood hno cs co hsp hcm hlay ts hP hok hbad hT hY hL he hw hws hls hC hM hrl hn hwf hle hv hr
  have hx := hxt
  clear hxt
  go_enter Try.func16, Try.ntmps16
  go_upto_region 1 with fail
  obtain ⟨w1, hw1⟩ : ∃ w1, w1 = w.alloc (.cells M 42) := ⟨_, rfl⟩
  rw [← hw1] at RA RB AL ⊢
  clear hw1
  go_wp2_with fail
  refine (AL.out).mono ?_
  rintro e2 w2 ⟨rfl, hb2⟩
  have B2 : Hid (Below w.heap.size w (w2.alloc (.cells C 61))) := Lib.hid ((RB.out.trans (hb2.mono RB.out.size)).alloc (Nat.le_trans RB.out.size hb2.size) _)
  have A2 := Lib.hid ((RA.out.below hb2 RA.out.lt).alloc (.cells C 61))
  have C2 := Lib.hid (at_new w2 C 61)
  have G2 := Lib.hid (Nat.le_trans RB.out.size hb2.size)
  clear hb2
  go_upto_region 2 with (refine wpList_store_new (by rfl) 61 _ _ (by rfl) (by rfl) C _ _ (by rfl) (by rfl) (by rw [CS.out]; exact infoTk) (by rw [TS.out, CS.out]) CO.out ?_)
  clear hx
  obtain ⟨l, hl⟩ : ∃ l, l = w2.heap.size := ⟨_, rfl⟩
  rw [← hl] at C2 G2 ⊢
  clear hl
  generalize (w2.alloc (.cells C 61)) = w3 at *
  by_cases he : e = 0
  · obtain ⟨hy, h0, hn⟩ := GOOD.out he
    subst he
    obtain ⟨i, rfl⟩ : ∃ i : Nat, z = (i : Int) := ⟨z.toNat, by omega⟩
    rw [Int.toNat_natCast] at hy
    have hin : i < n := by omega
    have hi6 : (i : Int) < 6 := by omega
    have hi7 : i < 6 := by omega
    have HY := Lib.hid hy; have SPI := Lib.hid (SP.out i hin)
    clear hy hn
    go_upto_region 5 with (first
      | (refine wpList_load_all (by rfl) 42 _ (by rfl) w.heap.size (by rfl) _ Try.underlying42 (by rfl) M _ A2.out (by rw [RS.out]; exact infoRfP) ?_)
      | (refine Mem.wpList_store_at (by rfl) 42 _ _ (by rfl) (by rfl) l (i * 34) M (by rfl) (by rfl) (by rw [RS.out]; exact infoRfP) C 61 C2.out (by rw [RS.out, CS.out]; omega) RO.out ?_; rw [SPI.out]))
    have C4 := Lib.hid (C2.out.row (tkC (pad6 (L.set i r)) n))
    have B4 : Hid (Below w.heap.size w (w3.setRow l (tkC (pad6 (L.set i r)) n))) := Lib.hid (below_row B2.out G2.out _)
    have LAY2 := Lib.hid (LAY.out i _ _ _ C4.out)
    have cm := (C4.out.cell 204).trans (CM.out i)
    clear C2 B2 A2
    generalize (w3.setRow l (tkC (pad6 (L.set i r)) n)) = w4 at *
    go_wp2_with (refine wpList_cut_to (by rfl) 59 _ _ (by rfl) 6 42 Try.underlying59 34 infoRfP l 0 n (by rfl) (by rfl) h6 ?_)
    refine (LAY2.out).mono ?_
    rintro e6 w6 ⟨v6, rfl, hs6, hb6⟩
    have S6 := Lib.hid hs6; have B6 : Hid (Below w.heap.size w w6) := Lib.hid (B4.out.trans (hb6.mono B4.out.size))
    clear hs6 hb6
    go_wp2_with fail
    go_ret2
    exact ⟨_, by rw [HY.out]; rfl, by rw [HY.out]; exact S6.out, B6.out⟩
  · have HY := Lib.hid (NO.out he)
    go_wp2_with fail
    go_ret2
    exact ⟨_, by rw [HY.out]; rfl, by rw [HY.out]; exact sl_none _, B2.out⟩
end Sha
end Go.Proofs.Ytfbhbdllbapnpaa
namespace Go.Proofs.Ytfbhbdllbapnpaa
namespace Sha
open Go.RowKit Mem
theorem nodP : NodeP where
  lay := fun L v w hv hw _ => play13_any L v w hv hw
  parse := fun p z v w hv hl => pparse13_any p z v w hv hl
  get := fun p z v w hv hl => pgetN_any p z v w hv hl
  set := fun p z r v w hr hv hl => pset13_any p z r hr v w hv hl
end Sha
end Go.Proofs.Ytfbhbdllbapnpaa
