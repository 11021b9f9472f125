/- My own texts, merged. -/
import Derived.Test.YtajdpbbbocnfiaaGreatDoorBm09
import Derived.Test.YtajdpbbbocnfiaaGreatDoorBm06
import Derived.Test.YtajdpbbbocnfiaaGreatDoorBm05
namespace Go.Proofs.YtajdpbbbocnfiaaGreatDoor
namespace Sha
open Go.RowKit Mem
theorem or_sum (a b k : Nat) (hb : b < 2 ^ k) : a * 2 ^ k ||| b = a * 2 ^ k + b := by
 rw [Nat.mul_comm, Nat.two_pow_add_eq_or_of_lt hb]
theorem lew_nat (a b c d : BitVec 8) : (d.setWidth 32 <<< 24 ||| c.setWidth 32 <<< 16 ||| b.setWidth 32 <<< 8 ||| a.setWidth 32 : BitVec 32).toNat = a.toNat + 256 * b.toNat + 65536 * c.toNat + 16777216 * d.toNat := by
 have ha := a.isLt; have hb := b.isLt; have hc := c.isLt; have hd := d.isLt
 have sh (x : BitVec 8) (k : Nat) (hk : k ≤ 24) : (x.setWidth 32 <<< k : BitVec 32).toNat = x.toNat * 2 ^ k := by
  have hx := x.isLt
  have h2 : x.toNat * 2 ^ k < 2 ^ 32 := by
   calc x.toNat * 2 ^ k < 2 ^ 8 * 2 ^ k := Nat.mul_lt_mul_of_pos_right hx (Nat.two_pow_pos k)
    _ = 2 ^ (8 + k) := (Nat.pow_add 2 8 k).symm
    _ ≤ 2 ^ 32 := Nat.pow_le_pow_right (by decide) (by omega)
  rw [BitVec.toNat_shiftLeft, BitVec.toNat_setWidth, Nat.shiftLeft_eq, Nat.mod_eq_of_lt (show x.toNat < 2 ^ 32 by omega), Nat.mod_eq_of_lt h2]
 have s0 : (a.setWidth 32 : BitVec 32).toNat = a.toNat := by rw [BitVec.toNat_setWidth, Nat.mod_eq_of_lt (by omega)]
 rw [BitVec.toNat_or, BitVec.toNat_or, BitVec.toNat_or, sh d 24 (by decide), sh c 16 (by decide), sh b 8 (by decide), s0]
 rw [or_sum d.toNat (c.toNat * 2 ^ 16) 24 (by omega)]
 rw [show d.toNat * 2 ^ 24 + c.toNat * 2 ^ 16 = (d.toNat * 2 ^ 8 + c.toNat) * 2 ^ 16 by omega, or_sum _ (b.toNat * 2 ^ 8) 16 (by omega)]
 rw [show (d.toNat * 2 ^ 8 + c.toNat) * 2 ^ 16 + b.toNat * 2 ^ 8 = (d.toNat * 2 ^ 16 + c.toNat * 2 ^ 8 + b.toNat) * 2 ^ 8 by omega, or_sum _ a.toNat 8 (by omega)]
 omega
theorem lew_val (l : List (BitVec 8)) (i : Nat) : B8 (l.getD (4 * i) 0) + 256 * B8 (l.getD (4 * i + 1) 0) + 65536 * B8 (l.getD (4 * i + 2) 0) + 16777216 * B8 (l.getD (4 * i + 3) 0) = V (lew l i) := by
 unfold V B8 lew
 rw [lew_nat]
 omega
theorem conv_b (x : BitVec 8) (w : World) : (convert 5 23 (.int .u8 (B8 x))).run Tryz.prog w = .ok (.int .u32 (B8 x)) w := by
 have h0 := B8_lo x; have h1 := B8_hi x
 have e : (convert 5 23 (.int .u8 (B8 x))).run Tryz.prog w = .ok (.int .u32 (IntKind.u32.wrap (B8 x))) w := by kernel_rfl
 rw [e, u32_id _ h0 (by omega)]
set_option maxRecDepth 100000 in
set_option maxHeartbeats 1000000 in
theorem rword_any (v : Value) (l : List (BitVec 8)) (w : World) (h : Sl w v l) (hl : l.length = 4) : Calls Tryz.prog 123 #[v] w fun e w' => e = .returned (.int .u32 (V (lew l 0))) ∧ Below w.heap.size w w' := by
 obtain ⟨a, cap, rfl, hcap, hr⟩ := h
 rw [hl] at hcap hr ⊢
 obtain ⟨bb, oo, rfl, hbb, hc⟩ := hr (by intro e; rw [e] at hl; simp at hl)
 obtain ⟨x0, h0⟩ : ∃ x, x = l.getD 0 0 := ⟨_, rfl⟩
 obtain ⟨x1, h1⟩ : ∃ x, x = l.getD 1 0 := ⟨_, rfl⟩
 obtain ⟨x2, h2⟩ : ∃ x, x = l.getD 2 0 := ⟨_, rfl⟩
 obtain ⟨x3, h3⟩ : ∃ x, x = l.getD 3 0 := ⟨_, rfl⟩
 have hv : B8 x0 + 256 * B8 x1 + 65536 * B8 x2 + 16777216 * B8 x3 = V (lew l 0) := by rw [h0, h1, h2, h3]; exact lew_val l 0
 have c0 : w.cell? ⟨bb, oo + 0, none⟩ = some (.int .u8 (B8 x0)) := by rw [h0]; exact hc 0 (by decide)
 have c1 : w.cell? ⟨bb, oo + 1, none⟩ = some (.int .u8 (B8 x1)) := by rw [h1]; exact hc 1 (by decide)
 have c2 : w.cell? ⟨bb, oo + 2, none⟩ = some (.int .u8 (B8 x2)) := by rw [h2]; exact hc 2 (by decide)
 have c3 : w.cell? ⟨bb, oo + 3, none⟩ = some (.int .u8 (B8 x3)) := by rw [h3]; exact hc 3 (by decide)
 have k0 (w' : World) (hw : Below w.heap.size w w') (k : Nat) : w'.cell? ⟨bb, oo + k, none⟩ = w.cell? ⟨bb, oo + k, none⟩ := hw.cell (p := ⟨bb, oo + k, none⟩) hbb
 have l0 := B8_lo x0; have l1 := B8_lo x1; have l2 := B8_lo x2; have l3 := B8_lo x3; have u0 := B8_hi x0; have u1 := B8_hi x1; have u2 := B8_hi x2; have u3 := B8_hi x3
 have HV := zh hv; have C0 := zh c0; have C1 := zh c1; have C2 := zh c2; have C3 := zh c3; have K0 := zh k0
 clear hv c0 c1 c2 c3 k0 hc hr h0 h1 h2 h3
 go_enter Tryz.func123, Tryz.ntmps123
 go_wp2_with fail
 refine wp_region_plan_in (fun w' => Below w.heap.size w w') (.take 0 (.take 1 (.take 2 (.take 3 (.take 4 (.take 5 (.take 6 (.take 7 (.take 8 (.take 9 (.take 10 (.take 11 (.take 12 (.take 13 (.take 14 (.take 15 (.take 16 (.take 17 (.take 18 (.take 19 (.take 20 (.take 21 (.take 22 .done))))))))))))))))))))))) (by kernel_rfl) (by kernel_rfl) (by kernel_rfl) (Below.refl _ _).drew ?_
 (first | refine Mem.pm1 ?_ | refine Mem.pm2 ?_ | refine Mem.pt ?_ | refine Mem.pf ?_)
 (simp only [Act.put, Mem.pa, Mem.pb, Mem.pc])
 refine plan_index 39 5 _ _ bb oo 4 cap 0 zr zr zr Mem.ev_a zr (by omega) Tryz.underlying39 (by kernel_rfl) ?_
 (simp only [Act.put, Mem.pa, Mem.pb, Mem.pc])
 refine plan_cell 5 _ _ _ _ zr zr zr Mem.ev_a (fun w' hw' => (K0.out w' hw' 0).trans C0.out) Tryz.underlying5 zr ?_
 (simp only [Act.put, Mem.pa, Mem.pb, Mem.pc])
 refine plan_conv _ _ _ _ _ zr zr zr Mem.ev_a (fun wx => conv_b x0 wx) ?_
 (simp only [Act.put, Mem.pa, Mem.pb, Mem.pc])
 (first | refine Mem.pm1 ?_ | refine Mem.pm2 ?_ | refine Mem.pt ?_ | refine Mem.pf ?_)
 (simp only [Act.put, Mem.pa, Mem.pb, Mem.pc])
 refine plan_index 39 5 _ _ bb oo 4 cap 1 zr zr zr Mem.ev_a zr (by omega) Tryz.underlying39 (by kernel_rfl) ?_
 (simp only [Act.put, Mem.pa, Mem.pb, Mem.pc])
 refine plan_cell 5 _ _ _ _ zr zr zr Mem.ev_a (fun w' hw' => (K0.out w' hw' 1).trans C1.out) Tryz.underlying5 zr ?_
 (simp only [Act.put, Mem.pa, Mem.pb, Mem.pc])
 refine plan_conv _ _ _ _ _ zr zr zr Mem.ev_a (fun wx => conv_b x1 wx) ?_
 (simp only [Act.put, Mem.pa, Mem.pb, Mem.pc])
 refine plan_bin _ _ _ _ _ _ _ _ zr zr zr Mem.ev_a Mem.ev_a (fun wx => o_umul _ _ _ _ (256) (B8 x1) (256 * B8 x1) rfl (by omega) (by omega) wx) ?_
 (simp only [Act.put, Mem.pa, Mem.pb, Mem.pc])
 refine plan_bin _ _ _ _ _ _ _ _ zr zr zr Mem.ev_a Mem.ev_a (fun wx => o_uadd _ _ _ _ (B8 x0) (256 * B8 x1) (B8 x0 + 256 * B8 x1) rfl (by omega) (by omega) wx) ?_
 (simp only [Act.put, Mem.pa, Mem.pb, Mem.pc])
 (first | refine Mem.pm1 ?_ | refine Mem.pm2 ?_ | refine Mem.pt ?_ | refine Mem.pf ?_)
 (simp only [Act.put, Mem.pa, Mem.pb, Mem.pc])
 refine plan_index 39 5 _ _ bb oo 4 cap 2 zr zr zr Mem.ev_a zr (by omega) Tryz.underlying39 (by kernel_rfl) ?_
 (simp only [Act.put, Mem.pa, Mem.pb, Mem.pc])
 refine plan_cell 5 _ _ _ _ zr zr zr Mem.ev_a (fun w' hw' => (K0.out w' hw' 2).trans C2.out) Tryz.underlying5 zr ?_
 (simp only [Act.put, Mem.pa, Mem.pb, Mem.pc])
 refine plan_conv _ _ _ _ _ zr zr zr Mem.ev_a (fun wx => conv_b x2 wx) ?_
 (simp only [Act.put, Mem.pa, Mem.pb, Mem.pc])
 refine plan_bin _ _ _ _ _ _ _ _ zr zr zr Mem.ev_a Mem.ev_a (fun wx => o_umul _ _ _ _ (65536) (B8 x2) (65536 * B8 x2) rfl (by omega) (by omega) wx) ?_
 (simp only [Act.put, Mem.pa, Mem.pb, Mem.pc])
 refine plan_bin _ _ _ _ _ _ _ _ zr zr zr Mem.ev_a Mem.ev_a (fun wx => o_uadd _ _ _ _ (B8 x0 + 256 * B8 x1) (65536 * B8 x2) (B8 x0 + 256 * B8 x1 + 65536 * B8 x2) rfl (by omega) (by omega) wx) ?_
 (simp only [Act.put, Mem.pa, Mem.pb, Mem.pc])
 (first | refine Mem.pm1 ?_ | refine Mem.pm2 ?_ | refine Mem.pt ?_ | refine Mem.pf ?_)
 (simp only [Act.put, Mem.pa, Mem.pb, Mem.pc])
 refine plan_index 39 5 _ _ bb oo 4 cap 3 zr zr zr Mem.ev_a zr (by omega) Tryz.underlying39 (by kernel_rfl) ?_
 (simp only [Act.put, Mem.pa, Mem.pb, Mem.pc])
 refine plan_cell 5 _ _ _ _ zr zr zr Mem.ev_a (fun w' hw' => (K0.out w' hw' 3).trans C3.out) Tryz.underlying5 zr ?_
 (simp only [Act.put, Mem.pa, Mem.pb, Mem.pc])
 refine plan_conv _ _ _ _ _ zr zr zr Mem.ev_a (fun wx => conv_b x3 wx) ?_
 (simp only [Act.put, Mem.pa, Mem.pb, Mem.pc])
 refine plan_bin _ _ _ _ _ _ _ _ zr zr zr Mem.ev_a Mem.ev_a (fun wx => o_umul _ _ _ _ (16777216) (B8 x3) (16777216 * B8 x3) rfl (by omega) (by omega) wx) ?_
 (simp only [Act.put, Mem.pa, Mem.pb, Mem.pc])
 refine plan_bin _ _ _ _ _ _ _ _ zr zr zr Mem.ev_a Mem.ev_a (fun wx => o_uadd _ _ _ _ (B8 x0 + 256 * B8 x1 + 65536 * B8 x2) (16777216 * B8 x3) (B8 x0 + 256 * B8 x1 + 65536 * B8 x2 + 16777216 * B8 x3) rfl (by omega) (by omega) wx) ?_
 (simp only [Act.put, Mem.pa, Mem.pb, Mem.pc])
 (first | refine Mem.pm1 ?_ | refine Mem.pm2 ?_ | refine Mem.pt ?_ | refine Mem.pf ?_)
 (simp only [Act.put, Mem.pa, Mem.pb, Mem.pc])
 refine plan_nil ?_
 go_wp2_with fail
 go_ret
 exact ⟨by rw [← HV.out]; rfl, (Below.refl _ _).drew⟩
def Z32 : Array Value := (u8s (List.replicate 32 0)).toArray
theorem zero32 (w : World) : (zeroValue 22).run Tryz.prog w = .ok (.agg Z32) w := by kernel_rfl
theorem info32 : (Tryz.prog.info? 22).map (·.size) = some 32 := by kernel_rfl
structure DInv (B Bd : Nat) (l : List (BitVec 8)) (w wr : World) : Prop where
 z : At wr (B + 1) Z32 22
 d : At wr Bd (u8s l).toArray 22
 tabs : Tabs wr
 b : Below B w wr
set_option maxRecDepth 100000 in
set_option maxHeartbeats 1000000 in
theorem sum_any (s : Fed) (hs : Ok s) (n : Nat) (hn : n % 64 = s.at') (w : World) (hN : n ≤ 1152921504606846975) (hL : Tabs w) :
 Calls Tryz.prog 103 #[.agg (stRow s.H s.T n)] w fun e w' => e = .returned (.agg (u8s (digest s n)).toArray) ∧ Below w.heap.size w w' := by
 obtain ⟨C, hC⟩ : ∃ C, C = stRow s.H s.T n := ⟨_, rfl⟩
 obtain ⟨X, hX⟩ : ∃ X, X = Z32 := ⟨_, rfl⟩
 obtain ⟨Z, hZ⟩ : ∃ Z, Z = Zst := ⟨_, rfl⟩
 obtain ⟨f, hf⟩ : ∃ f, f = feeds s (padBytes n) := ⟨_, rfl⟩
 obtain ⟨E, hE⟩ : ∃ E, E = stRow f.H f.T (n + (padBytes n).length) := ⟨_, rfl⟩
 obtain ⟨FR, hFR⟩ : ∃ FR, FR = (u32s f.H).toArray := ⟨_, rfl⟩
 have hfo : Ok f := by rw [hf]; exact feeds_ok _ hs
 have hz := zeroSt
 have hx := zero32
 rw [← hX] at hx
 rw [← hZ] at hz
 have hpad := fun wx (ht : Tabs wx) => pad_any s hs n hn wx hN ht
 rw [← hf, ← hE] at hpad
 rw [← hC] at hpad ⊢
 have hsz : C.size = 73 := by rw [hC]; exact stRow_size hs.h hs.t
 have hEs : E.size = 73 := by rw [hE]; exact stRow_size hfo.h hfo.t
 have hEo : E.all (·.oneCell') = true := by rw [hE]; exact stRow_one
 have hE2 : E.extract 0 (0 + 8) = FR := by rw [hE, hFR]; exact stRow_H hfo.h
 have hZs : Z.size = 73 := by rw [hZ]; exact Zst_size
 have aC : At ((w.alloc (.cells C 167)).alloc (.cells X 22)) w.heap.size C 167 := (at_new w C _).alloc _
 have aX : At ((w.alloc (.cells C 167)).alloc (.cells X 22)) (w.heap.size + 1) X 22 := by
  have := at_new (w.alloc (.cells C 167)) X 22
  simpa using this
 have b1 : Below w.heap.size w ((w.alloc (.cells C 167)).alloc (.cells X 22)) := ((Below.refl _ _).alloc (Nat.le_refl _) _).alloc (by simp) _
 have s1 : ((w.alloc (.cells C 167)).alloc (.cells X 22)).heap.size = w.heap.size + 2 := by simp
 have hcall := hpad _ (hL.below b1 (Nat.le_refl _))
 have HC := zh hC; have HX := zh hX; have HZ := zh hZ; have HF := zh hf; have HE := zh hE; have HFR := zh hFR; have HFO := zh hfo; have HSZ := zh hsz; have HES := zh hEs; have HEO := zh hEo; have HE2 := zh hE2; have HZS := zh hZs; have AC := zh aC; have AX := zh aX; have B1 := zh b1; have S1 := zh s1; have HCALL := zh hcall; have HL := zh hL
 clear hC hX hZ hf hE hFR hfo hsz hEs hEo hE2 hZs aC aX b1 s1 hcall hL hs hn hpad
 go_enter Tryz.func103, Tryz.ntmps103
 go_wp2_with (first | (refine wpList_load_all zr 167 _ zr w.heap.size zr _ Tryz.underlying167 zr C _ AC.out (by rw [HSZ.out]; exact infoSt) ?_) | (go_at_call 120; refine HCALL.out.mono ?_; rintro e w2 ⟨rfl, hb2⟩; have HB2 := zh hb2; clear hb2) | (refine wpList_store_new zr 167 _ _ zr zr E _ _ zr zr (by rw [HES.out]; exact infoSt) (by rw [HES.out, HZS.out]) HEO.out ?_) | (refine wpList_load_is zr 164 _ zr w2.heap.size 0 8 zr _ Tryz.underlying164 zr info8 E 167 ((at_new w2 E _).alloc _) (by rw [HES.out]; decide) FR HE2.out ?_))
 have hI : DInv w.heap.size (w2.heap.size + 1) (List.replicate 32 0) w ((w2.alloc (.cells E 167)).alloc (.cells X 22)) := by
  have hb2 := HB2.out
  rw [S1.out] at hb2
  have hs2 := hb2.size
  rw [S1.out] at hs2
  have bb : Below w.heap.size w w2 := B1.out.trans (hb2.mono (by omega))
  have bb' : Below w.heap.size w ((w2.alloc (.cells E 167)).alloc (.cells X 22)) := (bb.alloc (by omega) _).alloc (by simp; omega) _
  refine ⟨?_, ?_, HL.out.below bb' (Nat.le_refl _), bb'⟩
  ·rw [← HX.out]; exact ((AX.out.below hb2 (by omega)).alloc _).alloc _
  ·have := at_new (w2.alloc (.cells E 167)) X 22
   have e : (w2.alloc (.cells E 167)).heap.size = w2.heap.size + 1 := by simp
   rw [e] at this
   have e2 : (u8s (List.replicate 32 0)).toArray = X := by rw [HX.out]; rfl
   rw [e2]
   exact this
 have hBp : w.heap.size + 2 ≤ w2.heap.size := by have := HB2.out.size; rw [S1.out] at this; exact this
 have HI0 := zh hI
 clear hI HB2 hz hx
 generalize (w2.alloc (.cells E 167)).alloc (.cells X 22) = w3 at *
 generalize w2.heap.size = Bp at *
 clear w2
 obtain ⟨l, hl⟩ : ∃ l, l = adds f.H IVl := ⟨_, rfl⟩
 have HLL := zh hl; clear hl
 go_loopw [5, 6, 11] (fun _ _ i wr => ∃ j : Nat, j ≤ 8 ∧ i = .int .i64 j ∧ DInv w.heap.size (Bp + 1) (dRow l j) w wr) (fun _ _ i _ => 8 - (intOf i).toNat)
 case atStart => exact ⟨0, by omega, rfl, HI0.out⟩
 case round =>
  obtain ⟨j, hj, rfl, hI⟩ := hrel
  by_cases hlt : j < 8
  ·have cg : wr.cell? ⟨0, j, none⟩ = some (.int .u32 (V (IVl.getD j 0))) := hI.tabs.f.2 j hlt
   obtain ⟨y, hy⟩ : ∃ y, y = IVl.getD j 0 := ⟨_, rfl⟩
   rw [← hy] at cg
   have hjv : FR[j]? = some (.int .u32 (V (f.H.getD j 0))) := by rw [HFR.out, List.getElem?_toArray]; exact u32s_get f.H j (by rw [HFO.out.h]; exact hlt)
   obtain ⟨x, hx⟩ : ∃ x, x = f.H.getD j 0 := ⟨_, rfl⟩
   rw [← hx] at hjv
   have hd0 := hI.d
   obtain ⟨R0, hR0⟩ : ∃ R, R = (u8s (dRow l j)).toArray := ⟨_, rfl⟩
   have hR0s : R0.size = 32 := by rw [hR0]; simp [u8s, dRow_length]
   rw [← hR0] at hd0
   have i0 : 4 * j < R0.size := by omega
   have i1 : 4 * j + 1 < R0.size := by omega
   have i2 : 4 * j + 2 < R0.size := by omega
   have i3 : 4 * j + 3 < R0.size := by omega
   have D0 := zh hd0; have HR0 := zh hR0; have I0 := zh i0; have I1 := zh i1; have I2 := zh i2; have I3 := zh i3
   clear hd0 hR0 hR0s i0 i1 i2 i3
   have e0 : (V x + V y) % (4294967296 : Int) / (16777216 : Int) = ((wb (x + y) 24).toNat : Int) := by
    rw [r_add, ← wb24]; have := V_lo (x + y); have := V_hi (x + y); omega
   have e1 : (V x + V y) % (4294967296 : Int) / (65536 : Int) % (256 : Int) = ((wb (x + y) 16).toNat : Int) := by rw [r_add, ← wb16]
   have e2 : (V x + V y) % (4294967296 : Int) / (256 : Int) % (256 : Int) = ((wb (x + y) 8).toNat : Int) := by rw [r_add, ← wb8]
   have e3 : (V x + V y) % (256 : Int) = ((wb (x + y) 0).toNat : Int) := by rw [← wb0, ← r_add]; omega
   have e4 : (V x + V y) % (4294967296 : Int) % (256 : Int) = ((wb (x + y) 0).toNat : Int) := by rw [r_add, ← wb0]
   have E4 := zh e4; clear e4
   have E0 := zh e0; have E1 := zh e1; have E2 := zh e2; have E3 := zh e3
   clear e0 e1 e2 e3
   have HI := zh hI; have HYY := zh hy; have HXX := zh hx; have HJV := zh hjv
   clear hI hy hx hjv
   go_wp2_with (first | (refine wpList_index_row zr 164 _ _ zr 8 23 Tryz.underlying164 _ Tryz.underlying23 zr infoW FR j zr zr hlt _ HJV.out ?_) | (refine Mem.wpList_store_one zr 5 _ _ zr zr (Bp + 1) (4 * j) (.int .u8 ((wb (x + y) 24).toNat : Int)) zr (by exact congrArg (Value.int .u8) E0.out) zr infoB _ _ D0.out (by simpa using I0.out) ?_; intro w4 a4 o4 b4; have D4 := zh a4; have O4 := zh o4; have B4 := zh b4; clear a4 o4 b4) | (refine Mem.wpList_store_one zr 5 _ _ zr zr (Bp + 1) (4 * j + 1) (.int .u8 ((wb (x + y) 16).toNat : Int)) zr (by exact congrArg (Value.int .u8) E1.out) zr infoB _ _ D4.out (by simpa using I1.out) ?_; intro w5 a5 o5 b5; have D5 := zh a5; have O5 := zh o5; have B5 := zh b5; clear a5 o5 b5) | (refine Mem.wpList_store_one zr 5 _ _ zr zr (Bp + 1) (4 * j + 2) (.int .u8 ((wb (x + y) 8).toNat : Int)) zr (by exact congrArg (Value.int .u8) E2.out) zr infoB _ _ D5.out (by simpa using I2.out) ?_; intro w6 a6 o6 b6; have D6 := zh a6; have O6 := zh o6; have B6 := zh b6; clear a6 o6 b6) | (refine Mem.wpList_store_one zr 5 _ _ zr zr (Bp + 1) (4 * j + 3) (.int .u8 ((wb (x + y) 0).toNat : Int)) zr (by first | exact congrArg (Value.int .u8) E3.out | exact congrArg (Value.int .u8) E4.out) zr infoB _ _ D6.out (by simpa using I3.out) ?_; intro w7 a7 o7 b7; have D7 := zh a7; have O7 := zh o7; have B7 := zh b7; clear a7 o7 b7))
   go_roundw
   case rel =>
    refine ⟨j + 1, by omega, by go_num, ?_⟩
    have hI := HI.out
    have hd := D7.out
    have hz : (adds f.H IVl).getD j 0 = x + y := by
     have h1 : j < f.H.length := by rw [HFO.out.h]; exact hlt
     have h2 : j < IVl.length := hlt
     rw [HXX.out, HYY.out]
     simp only [adds, List.getD_eq_getElem?_getD, List.getElem?_zipWith, List.getElem?_eq_getElem h1, List.getElem?_eq_getElem h2, Option.getD_some]
    have e : (((R0.setIfInBounds (4 * j) (.int .u8 ((wb (x + y) 24).toNat : Int))).setIfInBounds (4 * j + 1) (.int .u8 ((wb (x + y) 16).toNat : Int))).setIfInBounds (4 * j + 2) (.int .u8 ((wb (x + y) 8).toNat : Int))).setIfInBounds (4 * j + 3) (.int .u8 ((wb (x + y) 0).toNat : Int)) = (u8s (dRow l (j + 1))).toArray := by
     rw [HR0.out, u8s_set, u8s_set, u8s_set, u8s_set, dRow, HLL.out, hz]
    rw [e] at hd
    have keep : ∀ k, k ≠ Bp + 1 → w7.heap[k]? = wr.heap[k]? := fun k hk => by rw [O7.out k hk, O6.out k hk, O5.out k hk, O4.out k hk]
    have hb := B7.out _ _ (B6.out _ _ (B5.out _ _ (B4.out _ _ hI.b (by omega)) (by omega)) (by omega)) (by omega)
    have hk0 := HL.out.k.1
    have hf0 := HL.out.f.1
    exact ⟨at_keep hI.z keep (by omega), hd, ⟨hI.tabs.k.keep keep (by omega), hI.tabs.f.keep keep (by omega)⟩, hb⟩
   case measure => simp [intOf]; omega
  ·have hj8 : j = 8 := by omega
   rw [hj8] at hI
   have hge : ¬ (j : Int) < 8 := by omega
   have hd := hI.d
   obtain ⟨G, hG⟩ : ∃ G, G = (u8s (dRow l 8)).toArray := ⟨_, rfl⟩
   rw [← hG] at hd
   have hGs : G.size = 32 := by rw [hG]; simp [u8s, dRow_length]
   have hGo : G.all (·.oneCell') = true := by rw [hG]; exact u8s_one _
   have hfin : (u8s (digest s n)).toArray = G := by rw [hG, digest, ← HF.out, HLL.out]
   have HI := zh hI; have HD := zh hd; have HGS := zh hGs; have HGO := zh hGo; have HFIN := zh hfin
   clear hI hd hG hGs hGo hfin hj8 hj hlt
   go_wp2_with (first | (refine wpList_load_all zr 22 _ zr (Bp + 1) zr _ Tryz.underlying22 zr G _ HD.out (by rw [HGS.out]; exact info32) ?_) | (refine wpList_store_all zr 22 _ _ zr zr (w.heap.size + 1) G zr zr (by rw [HGS.out]; exact info32) _ _ HI.out.z (by rw [HGS.out]; simp [Z32, u8s]) HGO.out ?_))
   try simp only [Exit.inBlock, Exit.then]
   refine ret_row zr (w.heap.size + 1) 22 G _ zr (HI.out.z.row G) Tryz.underlying22 zr (by rw [HGS.out]; exact info32) ?_
   exact ⟨by rw [HFIN.out], below_row HI.out.b (by omega) G⟩
end Sha
end Go.Proofs.YtajdpbbbocnfiaaGreatDoor
namespace Go.Proofs.YtajdpbbbocnfiaaGreatDoor
namespace Sha
open Go.RowKit Mem
set_option maxRecDepth 100000
def OIEnd (w : World) (L : List Int) (e : Ending) (w' : World) : Prop := ∃ v, e = .returned v ∧ OwnV w' w.heap.size 3 v (iz L) ∧ Below w.heap.size w w'
end Sha
end Go.Proofs.YtajdpbbbocnfiaaGreatDoor
