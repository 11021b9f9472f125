/- My own texts, merged. -/
import Derived.Test.YtajdpbbbocnfiaaGreatDoorBm03
import Derived.Test.YtajdpbbbocnfiaaGreatDoorBm01
namespace Go.Proofs.YtajdpbbbocnfiaaGreatDoor
namespace Sha
open Go.RowKit Mem
set_option maxRecDepth 100000 in
set_option maxHeartbeats 400000 in
theorem left_any (x : BitVec 32) (n : Nat) (w : World) (hn : n < 32) :
 Calls Tryz.prog 130 #[.int .u32 (V x), .int .i64 (n : Int)] w fun e w' => e = .returned (.int .u32 (V (x.rotateLeft n))) ∧ w = w' := by
 go_enter Tryz.func130, Tryz.ntmps130
 go_wp2_with fail
 go_loop [0, 5] (fun v i => ∃ k : Nat, k ≤ n ∧ i = .int .i64 k ∧ v = .int .u32 (V (x.rotateLeft k))) (fun _ i => n - (intOf i).toNat)
 case atStart => exact ⟨0, by omega, rfl, by rw [rotl_zero]⟩
 case round =>
  obtain ⟨k, hk, rfl, rfl⟩ := hrel
  obtain ⟨y, hy⟩ : ∃ y, y = x.rotateLeft k := ⟨_, rfl⟩
  by_cases hlt : k < n
  ·have hs := lf_val x k (by omega)
   rw [← hy] at hs ⊢
   have v0 := V_lo y
   have v1 := V_hi y
   have hlt' : (k : Int) < (n : Int) := by omega
   have HS := zh hs
   clear hs hy
   go_wp2
   go_round
   case rel => exact ⟨k + 1, by omega, by go_num, by rw [← HS.out]; congr 1; first | omega | (rw [Int.tdiv_eq_ediv_of_nonneg v0]; omega)⟩
   case measure => simp [intOf]; omega
  ·have hkn : k = n := by omega
   rw [← hy]
   have HY : Hid (y = x.rotateLeft n) := by rw [hy, hkn]; exact (rfl : x.rotateLeft n = x.rotateLeft n)
   have hge : ¬ (k : Int) < (n : Int) := by omega
   clear hy hkn hlt
   go_wp2
   go_ret
   exact ⟨by rw [← HY.out]; rfl, rfl⟩
def qOf (q : Q4) : Array Value := (u32s q.list).toArray
theorem qOf_one (q : Q4) : (qOf q).all (·.oneCell') = true := u32s_one _
theorem build_q (a b c d : BitVec 32) (w : World) : (Instr.build 193 #[(0, .int .u32 (V a)), (1, .int .u32 (V b)), (2, .int .u32 (V c)), (3, .int .u32 (V d))]).run Tryz.prog w = .ok (.agg #[.int .u32 (V a), .int .u32 (V b), .int .u32 (V c), .int .u32 (V d)]) w := by kernel_rfl
def Z4 : Array Value := (u32s [0, 0, 0, 0]).toArray
theorem zero4 (w : World) : (zeroValue 193).run Tryz.prog w = .ok (.agg Z4) w := by kernel_rfl
theorem infoQ : (Tryz.prog.info? 193).map (·.size) = some 4 := by kernel_rfl
theorem infoU32 : (Tryz.prog.info? 23).map (·.size) = some 1 := by kernel_rfl
set_option maxRecDepth 100000 in
set_option maxHeartbeats 1000000 in
theorem rquarter_any (q : Q4) (w : World) : Calls Tryz.prog 125 #[.agg (qOf q)] w fun e w' => e = .returned (.agg (qOf (qr q))) ∧ Below w.heap.size w w' := by
 obtain ⟨X, hX⟩ : ∃ X, X = Z4 := ⟨_, rfl⟩
 have hx := zero4
 rw [← hX] at hx
 have hXs : X.size = 4 := by rw [hX]; rfl
 obtain ⟨C, hC⟩ : ∃ C, C = qOf q := ⟨_, rfl⟩
 have c0 : C[0]? = some (.int .u32 (V q.a)) := by rw [hC]; rfl
 have c1 : C[1]? = some (.int .u32 (V q.b)) := by rw [hC]; rfl
 have c2 : C[2]? = some (.int .u32 (V q.c)) := by rw [hC]; rfl
 have c3 : C[3]? = some (.int .u32 (V q.d)) := by rw [hC]; rfl
 rw [← hC]
 have a1 : At ((w.alloc (.cells C 193)).alloc (.cells X 193)) w.heap.size C 193 := (at_new w C _).alloc _
 have r1 : At ((w.alloc (.cells C 193)).alloc (.cells X 193)) (w.heap.size + 1) X 193 := by
  have h := at_new (w.alloc (.cells C 193)) X 193
  simpa using h
 have b1 : Below w.heap.size w ((w.alloc (.cells C 193)).alloc (.cells X 193)) := ((Below.refl _ _).alloc (Nat.le_refl _) _).alloc (by simp) _
 have XS := zh hXs; have C0 := zh c0; have C1 := zh c1; have C2 := zh c2; have C3 := zh c3; have A1 := zh a1; have R1 := zh r1; have B1 := zh b1
 clear hXs c0 c1 c2 c3 a1 r1 b1 hX hC
 go_enter Tryz.func125, Tryz.ntmps125
 go_wp2_with fail
 generalize (w.alloc (.cells C 193)).alloc (.cells X 193) = w1 at *
 refine wp_region_plan_in (fun w' => Below w1.heap.size w1 w') (.take 0 (.take 1 (.take 2 (.take 3 (.take 4 (.take 5 (.take 6 (.take 7 (.take 8 (.take 9 (.take 10 (.take 11 .done)))))))))))) (by kernel_rfl) (by kernel_rfl) (by kernel_rfl) (Below.refl _ _).drew ?_
 refine plan_index_arr 193 23 4 _ _ w.heap.size 0 1 0 zr zr zr Mem.ev_a zr (by omega) Tryz.underlying193 (by kernel_rfl) (by decide) ?_
 (simp only [Act.put, Mem.pa, Mem.pb, Mem.pc])
 refine plan_cell 23 _ _ _ _ zr zr zr Mem.ev_a (fun w' hw' => ((A1.out.below hw' A1.out.lt).cell _).trans C0.out) Tryz.underlying23 zr ?_
 (simp only [Act.put, Mem.pa, Mem.pb, Mem.pc])
 refine plan_index_arr 193 23 4 _ _ w.heap.size 0 1 1 zr zr zr Mem.ev_a zr (by omega) Tryz.underlying193 (by kernel_rfl) (by decide) ?_
 (simp only [Act.put, Mem.pa, Mem.pb, Mem.pc])
 refine plan_cell 23 _ _ _ _ zr zr zr Mem.ev_a (fun w' hw' => ((A1.out.below hw' A1.out.lt).cell _).trans C1.out) Tryz.underlying23 zr ?_
 (simp only [Act.put, Mem.pa, Mem.pb, Mem.pc])
 refine plan_index_arr 193 23 4 _ _ w.heap.size 0 1 2 zr zr zr Mem.ev_a zr (by omega) Tryz.underlying193 (by kernel_rfl) (by decide) ?_
 (simp only [Act.put, Mem.pa, Mem.pb, Mem.pc])
 refine plan_cell 23 _ _ _ _ zr zr zr Mem.ev_a (fun w' hw' => ((A1.out.below hw' A1.out.lt).cell _).trans C2.out) Tryz.underlying23 zr ?_
 (simp only [Act.put, Mem.pa, Mem.pb, Mem.pc])
 refine plan_index_arr 193 23 4 _ _ w.heap.size 0 1 3 zr zr zr Mem.ev_a zr (by omega) Tryz.underlying193 (by kernel_rfl) (by decide) ?_
 (simp only [Act.put, Mem.pa, Mem.pb, Mem.pc])
 refine plan_cell 23 _ _ _ _ zr zr zr Mem.ev_a (fun w' hw' => ((A1.out.below hw' A1.out.lt).cell _).trans C3.out) Tryz.underlying23 zr ?_
 (simp only [Act.put, Mem.pa, Mem.pb, Mem.pc])
 (first | refine Mem.pm1 ?_ | refine Mem.pm2 ?_ | refine Mem.pt ?_ | refine Mem.pf ?_)
 (simp only [Act.put, Mem.pa, Mem.pb, Mem.pc])
 (first | refine Mem.pm1 ?_ | refine Mem.pm2 ?_ | refine Mem.pt ?_ | refine Mem.pf ?_)
 (simp only [Act.put, Mem.pa, Mem.pb, Mem.pc])
 (first | refine Mem.pm1 ?_ | refine Mem.pm2 ?_ | refine Mem.pt ?_ | refine Mem.pf ?_)
 (simp only [Act.put, Mem.pa, Mem.pb, Mem.pc])
 (first | refine Mem.pm1 ?_ | refine Mem.pm2 ?_ | refine Mem.pt ?_ | refine Mem.pf ?_)
 (simp only [Act.put, Mem.pa, Mem.pb, Mem.pc])
 refine plan_nil ?_
 have R2 : Hid (At w1.drew (w.heap.size + 1) X 193) := R1.out
 have B2 : Hid (Below w.heap.size w w1.drew) := B1.out.drew
 clear R1 B1 A1 hx
 generalize w1.drew = W at *
 go_wp2_with fail
 obtain ⟨a1, ha1⟩ : ∃ x : BitVec 32, x = q.a + q.b := ⟨_, rfl⟩
 rw [r_add q.a q.b, ← ha1]
 have Ha1 := zh ha1
 clear ha1
 rw [r_xor]
 refine (left_any (q.d ^^^ a1) 16 _ (by decide)).mono ?_
 rintro e w' ⟨rfl, rfl⟩
 obtain ⟨d1, hd1⟩ : ∃ x : BitVec 32, x = (q.d ^^^ a1).rotateLeft 16 := ⟨_, rfl⟩
 rw [← hd1]
 have Hd1 := zh hd1
 clear hd1
 go_wp2_with fail
 obtain ⟨k1, hk1⟩ : ∃ x : BitVec 32, x = q.c + d1 := ⟨_, rfl⟩
 rw [r_add q.c d1, ← hk1]
 have Hk1 := zh hk1
 clear hk1
 rw [r_xor]
 refine (left_any (q.b ^^^ k1) 12 _ (by decide)).mono ?_
 rintro e w' ⟨rfl, rfl⟩
 obtain ⟨b1, hb1⟩ : ∃ x : BitVec 32, x = (q.b ^^^ k1).rotateLeft 12 := ⟨_, rfl⟩
 rw [← hb1]
 have Hb1 := zh hb1
 clear hb1
 go_wp2_with fail
 obtain ⟨a2, ha2⟩ : ∃ x : BitVec 32, x = a1 + b1 := ⟨_, rfl⟩
 rw [r_add a1 b1, ← ha2]
 have Ha2 := zh ha2
 clear ha2
 rw [r_xor]
 refine (left_any (d1 ^^^ a2) 8 _ (by decide)).mono ?_
 rintro e w' ⟨rfl, rfl⟩
 obtain ⟨d2, hd2⟩ : ∃ x : BitVec 32, x = (d1 ^^^ a2).rotateLeft 8 := ⟨_, rfl⟩
 rw [← hd2]
 have Hd2 := zh hd2
 clear hd2
 go_wp2_with fail
 obtain ⟨k2, hk2⟩ : ∃ x : BitVec 32, x = k1 + d2 := ⟨_, rfl⟩
 rw [r_add k1 d2, ← hk2]
 have Hk2 := zh hk2
 clear hk2
 rw [r_xor]
 refine (left_any (b1 ^^^ k2) 7 _ (by decide)).mono ?_
 rintro e w' ⟨rfl, rfl⟩
 obtain ⟨b2, hb2⟩ : ∃ x : BitVec 32, x = (b1 ^^^ k2).rotateLeft 7 := ⟨_, rfl⟩
 rw [← hb2]
 have Hb2 := zh hb2
 clear hb2
 have hres : qOf (qr q) = (#[.int .u32 (V a2), .int .u32 (V b2), .int .u32 (V k2), .int .u32 (V d2)] : Array Value) := by rw [Hb2.out, Hk2.out, Hd2.out, Ha2.out, Hb1.out, Hk1.out, Hd1.out, Ha1.out]; rfl
 have HRES := zh hres
 clear hres
 go_wp2_with (first | (refine wpList_store_all zr 193 _ _ zr zr (w.heap.size + 1) (#[.int .u32 (V a2), .int .u32 (V b2), .int .u32 (V k2), .int .u32 (V d2)] : Array Value) zr zr (by exact infoQ) _ _ R2.out (by exact XS.out.symm) (u32s_one [a2, b2, k2, d2]) ?_))
 try simp only [Exit.inBlock, Exit.then]
 refine ret_row zr (w.heap.size + 1) 193 (#[.int .u32 (V a2), .int .u32 (V b2), .int .u32 (V k2), .int .u32 (V d2)] : Array Value) _ zr (R2.out.row _) Tryz.underlying193 zr (by exact infoQ) ?_
 exact ⟨by rw [HRES.out], below_row B2.out (by omega) _⟩
def sameB (l m : List (BitVec 8)) : Bool := l == m
theorem sameB_self (l : List (BitVec 8)) : sameB l l = true := by simp [sameB]
theorem sameB_len (l m : List (BitVec 8)) (h : l.length ≠ m.length) : sameB l m = false := by
 unfold sameB
 rw [Bool.eq_false_iff]
 intro e
 exact h (by rw [beq_iff_eq.1 e])
theorem B8_inj {x y : BitVec 8} (h : B8 x = B8 y) : x = y := by
 unfold B8 at h
 exact BitVec.eq_of_toNat_eq (by omega)
theorem sameB_at (l m : List (BitVec 8)) (j : Nat) (h : l.getD j 0 ≠ m.getD j 0) : sameB l m = false := by
 unfold sameB
 rw [Bool.eq_false_iff]
 intro e
 exact h (by rw [beq_iff_eq.1 e])
theorem take_next (l m : List (BitVec 8)) (j : Nat) (h1 : j < l.length) (h2 : j < m.length) (h : l.take j = m.take j) (hx : l.getD j 0 = m.getD j 0) : l.take (j + 1) = m.take (j + 1) := by
 have e1 : l.getD j 0 = l[j] := by simp [h1]
 have e2 : m.getD j 0 = m[j] := by simp [h2]
 rw [List.take_succ_eq_append_getElem h1, List.take_succ_eq_append_getElem h2, h, ← e1, ← e2, hx]
set_option maxRecDepth 100000 in
set_option maxHeartbeats 1000000 in
theorem same_any (l m : List (BitVec 8)) (vl vm : Value) (w : World) (hl : Sl w vl l) (hm : Sl w vm m) (_bl : l.length ≤ 9223372036854775807) (bm : m.length ≤ 9223372036854775807) :
 Calls Tryz.prog 11 #[vl, vm] w fun e w' => e = .returned (.bool (sameB l m)) ∧ Below w.heap.size w w' := by
 have hl0 := hl
 have hm0 := hm
 obtain ⟨a1, c1, rfl, hc1, _⟩ := hl
 obtain ⟨a2, c2, rfl, hc2, _⟩ := hm
 obtain ⟨n, hn⟩ : ∃ n, n = l.length := ⟨_, rfl⟩
 obtain ⟨k, hk⟩ : ∃ k, k = m.length := ⟨_, rfl⟩
 have HL := zh hl0; have HM := zh hm0
 clear hl0 hm0
 by_cases hne : n ≠ k
 ·have hs := sameB_len l m (by omega)
  rw [hs]
  rw [← hn, ← hk]
  have hne' : ¬ (n : Int) = (k : Int) := by omega
  rw [← hn] at _bl; rw [← hk] at bm
  clear hs hn hk hc1 hc2 hne HL HM
  go_enter Tryz.func11, Tryz.ntmps11
  go_wp2
  go_ret
  exact ⟨rfl, Below.refl _ _⟩
 ·have hnk : n = k := by omega
  subst hnk
  rw [← hn] at hc1 _bl
  rw [← hk] at hc2 bm
  have heq : (n : Int) = (n : Int) := rfl
  have HN := zh hn; have HK := zh hk
  rw [← hn, ← hk]
  clear hn hk hne heq
  go_enter Tryz.func11, Tryz.ntmps11
  go_wp2
  go_loopw [5] (fun i wr => ∃ j : Nat, j ≤ n ∧ i = .int .i64 j ∧ l.take j = m.take j ∧ ∃ q, wr = w.drewN q) (fun i _ => n - (intOf i).toNat)
  case atStart => exact ⟨0, Nat.zero_le _, rfl, rfl, 0, rfl⟩
  case round =>
   obtain ⟨j, hj, rfl, htk, q, rfl⟩ := hrel
   have HT := zh htk; clear htk
   by_cases hlt : j < n
   ·obtain ⟨b1, o1, rfl, cl⟩ := sl_at (i := j) HL.out (by rw [← HN.out]; exact hlt)
    obtain ⟨b2, o2, rfl, cm⟩ := sl_at (i := j) HM.out (by rw [← HK.out]; exact hlt)
    have z0 : (0 : Int) ≤ (j : Int) := by omega
    have zn : (j : Int) < (n : Int) := by omega
    by_cases hxy : l.getD j 0 = m.getD j 0
    ·have htn := take_next l m j (by rw [← HN.out]; exact hlt) (by rw [← HK.out]; exact hlt) HT.out hxy
     rw [← hxy] at cm
     obtain ⟨x, hx⟩ : ∃ x, x = l.getD j 0 := ⟨_, rfl⟩
     rw [← hx] at cl cm
     have HTN := zh htn
     clear hxy hx htn
     go_wp2
     go_quiet (fail)
     go_wp2
     go_roundw
     case rel => exact ⟨j + 1, by omega, by go_num, HTN.out, _, rfl⟩
     case measure => simp [intOf]; omega
    ·have hs := sameB_at l m j hxy
     obtain ⟨x, hx⟩ : ∃ x, x = l.getD j 0 := ⟨_, rfl⟩
     obtain ⟨y, hy⟩ : ∃ y, y = m.getD j 0 := ⟨_, rfl⟩
     rw [← hx] at cl hxy
     rw [← hy] at cm hxy
     have hbn : (B8 x != B8 y) = true := by
      rw [bne_iff_ne]; exact fun e => hxy (B8_inj e)
     have hbe : ¬ B8 x = B8 y := fun e => hxy (B8_inj e)
     have HS := zh hs
     clear hs hx hy hxy
     go_wp2
     go_quiet (fail)
     go_wp2
     go_ret
     exact ⟨by rw [HS.out]; rfl, ⟨rfl, rfl, rfl, Nat.le_refl _, fun _ _ => rfl⟩⟩
   ·have hjn : j = n := by omega
    have hge : ¬ (j : Int) < (n : Int) := by omega
    have hs : Hid (sameB l m = true) := by
     have h := HT.out
     rw [hjn, HN.out, List.take_length] at h
     have h2 : l.length = m.length := by rw [← HN.out, ← HK.out]
     rw [h2, List.take_length] at h
     show sameB l m = true
     rw [h]; exact sameB_self m
    clear hjn hlt
    go_wp2
    go_ret
    exact ⟨by rw [hs.out]; rfl, ⟨rfl, rfl, rfl, Nat.le_refl _, fun _ _ => rfl⟩⟩
end Sha
end Go.Proofs.YtajdpbbbocnfiaaGreatDoor
namespace Go.Proofs.YtajdpbbbocnfiaaGreatDoor
namespace Sha
open Go.ChangeShapes Go.WideShapes Go.ChangeAt Go.WideMaps Go.WideElems Go.RowKit Mem
set_option maxRecDepth 100000
theorem byte_of {n : Int} (h : (Lit.int .u8 n).wf = true) : ∃ x : BitVec 8, n = (x.toNat : Int) := by
 have h2 := h
 simp [Lit.wf, IntKind.min, IntKind.max, IntKind.signed, IntKind.bits] at h2
 refine ⟨BitVec.ofNat 8 n.toNat, ?_⟩
 rw [BitVec.toNat_ofNat]
 omega
theorem bytes_of : ∀ (zs : List Int), (∀ n ∈ zs, (Lit.int .u8 n).wf = true) → ∃ l : List (BitVec 8), zs = l.map fun x => (x.toNat : Int)
 | [], _ => ⟨[], rfl⟩
 | z :: zs, h => by
  obtain ⟨x, hx⟩ := byte_of (h z (by simp))
  obtain ⟨l, hl⟩ := bytes_of zs (fun n hn => h n (by simp [hn]))
  exact ⟨x :: l, by simp [hx, hl]⟩
theorem cB : Tryz.prog.cellsOf 5 = 1 := by kernel_rfl
theorem cS : Tryz.prog.cellsOf 39 = 1 := by kernel_rfl
theorem sl_of {w : World} {a : Addr} {len : Nat} (cap : Nat) {zs : List Int} (hl : len ≤ cap) (hz : len ≤ zs.length) (hcell : ∀ i, i < zs.length → w.cell? (a.add i) = some (.int .u8 (zs.getD i 0))) (hwz : ∀ n ∈ zs, (Lit.int .u8 n).wf = true) :
 ∃ l, Sl w (.slice (some a) len cap) l ∧ l.length = len := by
 obtain ⟨l, rfl⟩ := bytes_of zs hwz
 have hz' : len ≤ l.length := by simpa using hz
 have hlen : (l.take len).length = len := by simp; omega
 refine ⟨l.take len, ⟨some a, cap, by rw [hlen], by rw [hlen]; exact hl, fun hne => ?_⟩, hlen⟩
 have hp : 0 < len := by
  rcases Nat.eq_zero_or_pos len with h | h
  ·subst h; simp at hne
  ·exact h
 have h0 := hcell 0 (by simp; omega)
 obtain ⟨b, o, ln⟩ := a
 have hsp : ln = none := by simpa [Addr.add] using World.cell?_spot h0
 subst hsp
 refine ⟨b, o, rfl, ?_, fun i hi => ?_⟩
 ·rw [Addr.add_mid] at h0
  exact block_lt_of_cell h0
 ·rw [hlen] at hi
  have h1 := hcell i (by simp; omega)
  rw [Addr.add_mid] at h1
  rw [h1]
  simp [List.getD_eq_getElem?_getD, hi, show i < l.length by omega]
theorem sl_nil (w : World) (cap : Nat) : Sl w (.slice none 0 cap) [] := ⟨none, cap, rfl, by simp, fun h => absurd rfl h⟩
theorem okWide_array {P : Program} {w : World} {r : Reach} {base : Nat} {t e : TypeId} {v : Value} {n : Nat} (ht : P.underlying t = some (.array n e)) (h : Value.okWide P w r base t v) : ∃ cs, v = .agg cs ∧ cs.size = P.cellsOf t := by
 simp only [Value.okWide, ht] at h
 obtain ⟨cs, h1, h2, _⟩ := h
 exact ⟨cs, h1, h2⟩
theorem open_bytes_in {H : Type} {enc : TypeId × Value → H} {W : World} {m n : Nat} {t : TypeId} {cs : List Value} {y : DataW H × List MemPlace} (hu : Tryz.prog.underlying t = some (.array n 5)) (hc : Tryz.prog.cellsOf t = n)
 (hf : DataW.trod enc Tryz.prog W 0 (fun _ => true) true m t cs = some y) : ∃ l : List (BitVec 8), cs = u8s l ∧ l.length = n := by
 obtain ⟨xs, m', _, _, hl, hx, he⟩ := DataW.trod_array hu hf
 rw [hc] at hl
 have each : ∀ i, i < n → ∃ b : BitVec 8, cs[i]? = some (.int .u8 (b.toNat : Int)) := fun i hi => by
  have h := he i hi
  rw [cB, Nat.mul_one, List.getElem?_eq_getElem (by omega)] at h
  obtain ⟨k, hk, _, hw⟩ := DataW.trod_int Tryz.underlying5 h
  obtain ⟨b, rfl⟩ := byte_of hw
  refine ⟨b, ?_⟩
  have h0 : ((cs.drop i).take 1)[0]? = some (.int .u8 (b.toNat : Int)) := by rw [hk]; rfl
  simpa [List.getElem?_take, List.getElem?_drop] using h0
 obtain ⟨f, hff⟩ := Deep.choose_lt each
 refine ⟨(List.range n).map f, ?_, by simp⟩
 apply List.ext_getElem?
 intro i
 by_cases hi : i < n
 ·rw [hff i hi]; simp [u8s, hi]
 ·rw [List.getElem?_eq_none (by omega), List.getElem?_eq_none (by simp [u8s]; omega)]
theorem open_bytes {H : Type} {enc : TypeId × Value → H} {W : World} {base n : Nat} {t : TypeId} {v : Value} {d : DataW H} {p : List MemPlace} (hu : Tryz.prog.underlying t = some (.array n 5)) (hc : Tryz.prog.cellsOf t = n)
 (hval : Value.okWide Tryz.prog W .any base t v) (h : DataW.Trod enc Tryz.prog W 0 (fun _ => true) true t v d p) : ∃ l : List (BitVec 8), v = .agg (u8s l).toArray ∧ l.length = n := by
 obtain ⟨cs, rfl, _⟩ := okWide_array hu hval
 obtain ⟨fuel, hf⟩ := h
 have e1 : (Value.agg cs).cells.toList = cs.toList := rfl
 rw [e1] at hf
 obtain ⟨l, hl, ln⟩ := open_bytes_in hu hc hf
 exact ⟨l, by rw [← hl], ln⟩
theorem cells_of_rows {H : Type} {enc : TypeId × Value → H} {P : Program} {w : World} {base : Nat} {sp : Nat → Bool} {held : Bool} {fuel : Nat} {t e1 e : TypeId} {n m : Nat} {k : IntKind} {cs : List Value} {rows : List (List Int)} {p : List MemPlace}
 (ht : P.underlying t = some (.array n e1)) (h1 : P.underlying e1 = some (.array m e)) (he : P.underlying e = some (.int k)) (hce : P.cellsOf e = 1) (hc1 : P.cellsOf e1 = m) (hct : P.cellsOf t = n * m) (_hm : 0 < m)
 (h : DataW.trod enc P w base sp held fuel t cs = some (.agg (rows.map (Lib.tabData k)), p)) : cs.length = n * m ∧ ∀ i, i < n → (cs.drop (i * m)).take m = (rows.getD i []).map fun z => Value.int k z := by
 obtain ⟨xs, m', _, hx, hl, hxl, hh⟩ := DataW.trod_array ht h
 refine ⟨by rw [hl, hct], fun i hi => ?_⟩
 have hi2 := hh i hi
 rw [hc1, List.getElem?_eq_getElem (by omega)] at hi2
 have hr : rows.map (Lib.tabData k) = xs.map (·.1) := by
  have := congrArg Prod.fst hx
  simpa using this
 have hlen : rows.length = n := by have := congrArg List.length hr; simpa [hxl] using this
 have hrow : (xs[i]'(by omega)).1 = (Lib.tabData k (rows.getD i []) : DataW H) := by
  have e2 := congrArg (fun l => l[i]?) hr
  simp only [List.getElem?_map, List.getElem?_eq_getElem (show i < xs.length by omega), List.getElem?_eq_getElem (show i < rows.length by omega), Option.map_some, Option.some.injEq] at e2
  rw [← e2]
  simp [List.getD_eq_getElem?_getD, hlen, hi]
 obtain ⟨x1, x2⟩ : ∃ a b, xs[i]'(by omega) = (a, b) := ⟨_, _, rfl⟩
 rw [show xs[i]'(by omega) = ((xs[i]'(by omega)).1, (xs[i]'(by omega)).2) from rfl, hrow] at hi2
 exact Lib.cells_of_tab h1 he hce hc1 hi2
end Sha
end Go.Proofs.YtajdpbbbocnfiaaGreatDoor
