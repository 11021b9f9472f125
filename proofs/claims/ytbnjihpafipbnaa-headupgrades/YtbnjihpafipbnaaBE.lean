/- The program's takeShared: its walk (written by headtake.py). The program's Lay of a head: its walk (written by headplay.py). Bytes as strings; bytes.Equal of any two slices. The program's Parse of a head: its walk (written by headpparse.py). -/
import Derived.Test.YtbnjihpafipbnaaBC
import Derived.Test.YtbnjihpafipbnaaBA
import Derived.Deep.DeepCutAuto
import Derived.Test.YtbnjihpafipbnaaBD
import Derived.Test.YtbnjihpafipbnaaBB
import Derived.Laws.BytesArg
namespace Go.Proofs.Ytbnjihpafipbnaa
namespace Sha
open Go.RowKit Mem
theorem infoI64t : (Try.prog.info? 3).map (·.size) = some 1 := by kernel_rfl
theorem infoStrt : (Try.prog.info? 9).map (·.size) = some 1 := by kernel_rfl
/-- In takeShared: the reader, the result's block, the head's block. -/
structure HkInv (w : World) (br : Nat) (Z : Array Value) (C : Array Value) (b : List (BitVec 8)) (e : Nat) (W : World) : Prop where
  r : RPk W br b e
  ar : At W w.heap.size Z 35
  ag : At W (w.heap.size + 1) C 35
  o : But br w W
  k : ∀ B x, Below B x w → B ≤ br → Below B x W
section
variable {w W W' : World} {br : Nat} {Z C C' : Array Value} {b b' : List (BitVec 8)} {e e' : Nat}
theorem HkInv.call (h : HkInv w br Z C b e W) (hp : PkEnd RPk W br b' e' W') (hbr : br < w.heap.size) : HkInv w br Z C b' e' W' :=
  ⟨hp.r, h.ar.but hp.o (by omega), h.ag.but hp.o (by omega), ⟨Nat.le_trans h.o.size hp.o.size, fun k hk hne => (hp.o.block k (Nat.lt_of_lt_of_le hk h.o.size) hne).trans (h.o.block k hk hne)⟩, fun B x hB hle => hp.k B x (h.k B x hB hle) hle⟩
theorem HkInv.store (h : HkInv w br Z C b e W) (ha : At W' (w.heap.size + 1) C' 35) (ho : ∀ k, k ≠ w.heap.size + 1 → W'.heap[k]? = W.heap[k]?) (hk : ∀ B x, Below B x W → B ≤ w.heap.size + 1 → Below B x W') (hbr : br < w.heap.size) : HkInv w br Z C' b e W' := by
  have hs : W.heap.size ≤ W'.heap.size := (hk _ _ (Below.refl (w.heap.size + 1) W) (Nat.le_refl _)).size
  have hb : But (w.heap.size + 1) W W' := ⟨hs, fun k _ hne => ho k hne⟩
  exact ⟨h.r.above hb (by omega), h.ar.but hb (by omega), ha, ⟨Nat.le_trans h.o.size hs, fun k hk2 hne => (ho k (by omega)).trans (h.o.block k hk2 hne)⟩, fun B x hB hle => hk B x (h.k B x hB hle) (by omega)⟩
theorem HkInv.drew (h : HkInv w br Z C b e W) (_hbr : br < w.heap.size) : HkInv w br Z C b e W.drew :=
  ⟨h.r.below (Below.refl _ _).drew, h.ar.below (Below.refl _ _).drew h.ar.lt, h.ag.below (Below.refl _ _).drew h.ag.lt, ⟨h.o.size, h.o.block⟩, fun B x hB hle => (h.k B x hB hle).drew⟩
theorem HkInv.done {D : Array Value} (h : HkInv w br Z C b e W) (hbr : br < w.heap.size) : PkEnd RPk w br b e (W.setRow w.heap.size D) := by
  have hb : But w.heap.size W (W.setRow w.heap.size D) := ⟨by simp, fun k _ hne => setRow_other W _ k _ hne⟩
  exact ⟨h.r.above hb hbr, ⟨Nat.le_trans h.o.size hb.size, fun k hk hne => (setRow_other W _ k _ (by omega)).trans (h.o.block k hk hne)⟩, fun B x hB hle => below_row (h.k B x hB hle) (by omega) _⟩
end
set_option maxRecDepth 100000 in
set_option maxHeartbeats 8000000 in
theorem ptakeS_any (v : Int) (h0 : -9223372036854775808 ≤ v) (h1 : v ≤ 9223372036854775807) (b : List (BitVec 8)) (br : Nat) (w : World) (hr : RPk w br b 0) (hl0 : b.length ≤ 8000) :
    Calls Try.prog 31 #[rp br, .int .i64 v] w fun o w' => o = .returned (.agg (hdC (takeH v b).1)) ∧ PkEnd RPk w br (takeH v b).2.1 (takeH v b).2.2 w' := by
  have hbr := hr.lt
  have hwf := takeH_wf v b h0 h1 hl0
  obtain ⟨r1, hr1⟩ : ∃ r, r = rdNum b 0 2 216 := ⟨_, rfl⟩
  have lt1 : r1.1 ≤ 216 := by rw [hr1]; exact rdNum_le _ _ _ _
  have ll1 : r1.2.1.length ≤ 8000 := by rw [hr1]; exact Nat.le_trans (rdNum_len _ _ _ _) hl0
  have nu1 : ∀ wx, RPk wx br b 0 → Calls Try.prog 30 #[rp br, .int .i64 2, .int .u64 (216 : Int)] wx fun o w' => o = .returned (.int .u64 ((r1.1 : Nat) : Int)) ∧ PkEnd RPk wx br r1.2.1 r1.2.2 w' := fun wx h => by rw [hr1]; exact pnumget_any b 0 2 216 br wx h hl0 (by omega)
  obtain ⟨n1, b1, e1⟩ := r1
  simp only at lt1 ll1 nu1
  obtain ⟨r2, hr2⟩ : ∃ r, r = rdTake b1 e1 16 := ⟨_, rfl⟩
  have lt2 : r2.x = [] ∨ r2.x.length = 16 := by rw [hr2]; exact rdTake_x _ _ _
  have ll2 : r2.b.length ≤ 8000 := by rw [hr2]; exact Nat.le_trans (rdTake_small _ _ _).2.2.1 ll1
  have nu2 : ∀ wx, RPk wx br b1 e1 → Calls Try.prog 29 #[rp br, .int .i64 16] wx fun o w' => ∃ v, o = .returned v ∧ Sl w' v r2.x ∧ PkEnd RPk wx br r2.b r2.e w' := fun wx h => by rw [hr2]; exact pbytes_any b1 e1 16 br wx h ll1 (by decide) (by decide)
  obtain ⟨x2, b2, e2⟩ := r2
  simp only at lt2 ll2 nu2
  obtain ⟨r3, hr3⟩ : ∃ r, r = rdNum b2 e2 4 100 := ⟨_, rfl⟩
  have lt3 : r3.1 ≤ 100 := by rw [hr3]; exact rdNum_le _ _ _ _
  have ll3 : r3.2.1.length ≤ 8000 := by rw [hr3]; exact Nat.le_trans (rdNum_len _ _ _ _) ll2
  have nu3 : ∀ wx, RPk wx br b2 e2 → Calls Try.prog 30 #[rp br, .int .i64 4, .int .u64 (100 : Int)] wx fun o w' => o = .returned (.int .u64 ((r3.1 : Nat) : Int)) ∧ PkEnd RPk wx br r3.2.1 r3.2.2 w' := fun wx h => by rw [hr3]; exact pnumget_any b2 e2 4 100 br wx h ll2 (by omega)
  obtain ⟨n3, b3, e3⟩ := r3
  simp only at lt3 ll3 nu3
  obtain ⟨r4, hr4⟩ : ∃ r, r = rdTake b3 e3 32 := ⟨_, rfl⟩
  have lt4 : r4.x = [] ∨ r4.x.length = 32 := by rw [hr4]; exact rdTake_x _ _ _
  have ll4 : r4.b.length ≤ 8000 := by rw [hr4]; exact Nat.le_trans (rdTake_small _ _ _).2.2.1 ll3
  have nu4 : ∀ wx, RPk wx br b3 e3 → Calls Try.prog 29 #[rp br, .int .i64 32] wx fun o w' => ∃ v, o = .returned v ∧ Sl w' v r4.x ∧ PkEnd RPk wx br r4.b r4.e w' := fun wx h => by rw [hr4]; exact pbytes_any b3 e3 32 br wx h ll3 (by decide) (by decide)
  obtain ⟨x4, b4, e4⟩ := r4
  simp only at lt4 ll4 nu4
  obtain ⟨r5, hr5⟩ : ∃ r, r = rdTake b4 e4 32 := ⟨_, rfl⟩
  have lt5 : r5.x = [] ∨ r5.x.length = 32 := by rw [hr5]; exact rdTake_x _ _ _
  have ll5 : r5.b.length ≤ 8000 := by rw [hr5]; exact Nat.le_trans (rdTake_small _ _ _).2.2.1 ll4
  have nu5 : ∀ wx, RPk wx br b4 e4 → Calls Try.prog 29 #[rp br, .int .i64 32] wx fun o w' => ∃ v, o = .returned v ∧ Sl w' v r5.x ∧ PkEnd RPk wx br r5.b r5.e w' := fun wx h => by rw [hr5]; exact pbytes_any b4 e4 32 br wx h ll4 (by decide) (by decide)
  obtain ⟨x5, b5, e5⟩ := r5
  simp only at lt5 ll5 nu5
  obtain ⟨r6, hr6⟩ : ∃ r, r = rdText b5 e5 24 := ⟨_, rfl⟩
  have nu6 : ∀ wx, RPk wx br b5 e5 → Calls Try.prog 42 #[rp br, .int .i64 24] wx fun o w' => ∃ v, o = .returned v ∧ Sl w' v r6.x ∧ PkEnd RPk wx br r6.b r6.e w' := fun wx h => by rw [hr6]; exact ptextget_any b5 e5 24 br wx h ll5
  obtain ⟨x6, b6, e6⟩ := r6
  simp only at nu6
  have ht : takeH v b = (⟨v, (n1 : Int), ⟨padN 16 x2, (n3 : Int), padN 32 x4, padN 32 x5⟩, x6⟩, b6, e6) := by
    unfold takeH
    simp only [← hr1, ← hr2, ← hr3, ← hr4, ← hr5, ← hr6]
  rw [ht] at hwf ⊢
  simp only at hwf ⊢
  have lS := padN_len 16 x2 lt2
  have lK := padN_len 32 x4 lt4
  have s1 := hd_setpages ⟨v, 0, zwr, []⟩ (n1 : Int)
  have s2 := hd_copyS v (n1 : Int) x2
  have s3 := hd_setR ⟨v, (n1 : Int), { zwr with salt := padN 16 x2 }, []⟩ lS (n3 : Int)
  have s4 := hd_copyK v (n1 : Int) (padN 16 x2) lS (n3 : Int) x4
  have s5 := hd_copyC v (n1 : Int) (padN 16 x2) lS (n3 : Int) (padN 32 x4) lK x5
  have s6 := hd_setLab ⟨v, (n1 : Int), ⟨padN 16 x2, (n3 : Int), padN 32 x4, padN 32 x5⟩, []⟩ hwf.wr x6
  simp only at s1 s3 s6
  obtain ⟨Z, hZ⟩ : ∃ Z, Z = hdC zhd := ⟨_, rfl⟩
  have zs : Z.size = 84 := by rw [hZ]; exact hdC_size zhd_wf
  have hx : ∀ w, (zeroValue 35).run Try.prog w = .ok (.agg Z) w := by rw [hZ]; exact zeroHdP
  have bv : ∀ w, (Instr.build 35 #[(0, .int .i64 v)]).run Try.prog w = .ok (.agg (hdC ⟨v, 0, zwr, []⟩)) w := fun w => buildHP1 v w
  have wf0 : HdV.Wf ⟨v, 0, zwr, []⟩ := ⟨h0, h1, by show (-9223372036854775808 : Int) ≤ 0; decide, by show (0 : Int) ≤ 9223372036854775807; decide, zwr_wf, by show 0 ≤ 9223372036854775807; decide⟩
  have z0 := hdC_size wf0
  have o0 := hdC_one ⟨v, 0, zwr, []⟩
  have z1 : (hdC ⟨v, (n1 : Int), zwr, []⟩).size = 84 := by rw [← s1, Array.size_setIfInBounds]; exact z0
  have z2 : (hdC ⟨v, (n1 : Int), { zwr with salt := padN 16 x2 }, []⟩).size = 84 := by simp [hdC, hdL, wrL, u8s_length, lS, zwr, z32]
  have z3 : (hdC ⟨v, (n1 : Int), ⟨padN 16 x2, (n3 : Int), z32, z32⟩, []⟩).size = 84 := by simp [hdC, hdL, wrL, u8s_length, lS, z32]
  have z4 : (hdC ⟨v, (n1 : Int), ⟨padN 16 x2, (n3 : Int), padN 32 x4, z32⟩, []⟩).size = 84 := by simp [hdC, hdL, wrL, u8s_length, lS, lK, z32]
  have z5 : (hdC ⟨v, (n1 : Int), ⟨padN 16 x2, (n3 : Int), padN 32 x4, padN 32 x5⟩, []⟩).size = 84 := by simp [hdC, hdL, wrL, u8s_length, lS, lK, padN_len 32 x5 lt5]
  have s3' : (hdC ⟨v, (n1 : Int), { zwr with salt := padN 16 x2 }, []⟩).setIfInBounds 18 (.int .i64 (n3 : Int)) = hdC ⟨v, (n1 : Int), ⟨padN 16 x2, (n3 : Int), z32, z32⟩, []⟩ := s3
  clear s3
  obtain ⟨C0, hC0⟩ : ∃ C, C = hdC ⟨v, 0, zwr, []⟩ := ⟨_, rfl⟩
  obtain ⟨C1, hC1⟩ : ∃ C, C = hdC ⟨v, (n1 : Int), zwr, []⟩ := ⟨_, rfl⟩
  obtain ⟨C2, hC2⟩ : ∃ C, C = hdC ⟨v, (n1 : Int), { zwr with salt := padN 16 x2 }, []⟩ := ⟨_, rfl⟩
  obtain ⟨C3, hC3⟩ : ∃ C, C = hdC ⟨v, (n1 : Int), ⟨padN 16 x2, (n3 : Int), z32, z32⟩, []⟩ := ⟨_, rfl⟩
  obtain ⟨C4, hC4⟩ : ∃ C, C = hdC ⟨v, (n1 : Int), ⟨padN 16 x2, (n3 : Int), padN 32 x4, z32⟩, []⟩ := ⟨_, rfl⟩
  obtain ⟨C5, hC5⟩ : ∃ C, C = hdC ⟨v, (n1 : Int), ⟨padN 16 x2, (n3 : Int), padN 32 x4, padN 32 x5⟩, []⟩ := ⟨_, rfl⟩
  obtain ⟨F, hF⟩ : ∃ C, C = hdC ⟨v, (n1 : Int), ⟨padN 16 x2, (n3 : Int), padN 32 x4, padN 32 x5⟩, x6⟩ := ⟨_, rfl⟩
  have fs : F.size = 84 := by rw [hF]; exact hdC_size hwf
  have fo : F.all (·.oneCell') = true := by rw [hF]; exact hdC_one _
  rw [← hC0, ← hC1] at s1
  rw [← hC0] at bv z0 o0
  rw [← hC1, ← hC2] at s2
  rw [← hC1] at z1
  rw [← hC2, ← hC3] at s3'
  rw [← hC2] at z2
  rw [← hC3, ← hC4] at s4
  rw [← hC3] at z3
  rw [← hC4, ← hC5] at s5
  rw [← hC4] at z4
  rw [← hC5, ← hF] at s6
  rw [← hC5] at z5
  rw [← hF]
  obtain ⟨S, hS⟩ : ∃ S, S = strOfNums (i8s x6) := ⟨_, rfl⟩
  rw [← hS] at s6
  have cvS : ∀ wx (a : Option Addr) (c : Nat), Sl wx (.slice a x6.length c) x6 → (convert 28 9 (.slice a x6.length c)).run Try.prog wx = .ok (.string S) wx := fun wx a c hs => by rw [hS]; exact conv_slA hs
  have cv1 := fun wx => conv_ui n1 (by omega) wx
  have cv3 := fun wx => conv_ui n3 (by omega) wx
  have az := at_new w Z 35
  have hws : (w.alloc (.cells Z 35)).heap.size = w.heap.size + 1 := by simp
  have bz : Below w.heap.size w (w.alloc (.cells Z 35)) := (Below.refl _ _).alloc (Nat.le_refl _) _
  have i0 : HkInv w br Z C0 b 0 ((w.alloc (.cells Z 35)).alloc (.cells C0 35)) := by
    have ha := at_new (w.alloc (.cells Z 35)) C0 35
    rw [hws] at ha
    have hb2 : Below w.heap.size w ((w.alloc (.cells Z 35)).alloc (.cells C0 35)) := bz.alloc (by simp) _
    exact ⟨hr.below hb2, az.alloc _, ha, ⟨hb2.size, fun k hk _ => hb2.block k hk⟩, fun B x hB hle => (hB.alloc (by have := hB.size; omega) _).alloc (by rw [hws]; have := hB.size; omega) _⟩
  have ZS := Lib.hid zs; have BV := Lib.hid bv; have Z0 := Lib.hid z0; have O0 := Lib.hid o0; have Z1 := Lib.hid z1; have Z2 := Lib.hid z2; have Z3 := Lib.hid z3; have Z4 := Lib.hid z4; have Z5 := Lib.hid z5; have FS := Lib.hid fs; have FO := Lib.hid fo; have SS1 := Lib.hid s1; have SS2 := Lib.hid s2; have SS3 := Lib.hid s3'; have SS4 := Lib.hid s4; have SS5 := Lib.hid s5; have SS6 := Lib.hid s6; have CVS := Lib.hid cvS; have CV1 := Lib.hid cv1; have CV3 := Lib.hid cv3; have HWS := Lib.hid hws; have I0 := Lib.hid i0
  have NU1 := Lib.hid nu1; have NU2 := Lib.hid nu2; have NU3 := Lib.hid nu3; have NU4 := Lib.hid nu4; have NU5 := Lib.hid nu5; have NU6 := Lib.hid nu6; have LT2 := Lib.hid lt2; have LT4 := Lib.hid lt4; have LT5 := Lib.hid lt5; have HBR := Lib.hid hbr
  clear zs bv z0 o0 z1 z2 z3 z4 z5 fs fo s1 s2 s3' s4 s5 s6 cvS cv1 cv3 hws i0 az bz nu1 nu2 nu3 nu4 nu5 nu6 lt1 lt2 lt3 lt4 lt5 ll1 ll2 ll3 ll4 ll5 hr1 hr2 hr3 hr4 hr5 hr6 hC0 hC1 hC2 hC3 hC4 hC5 hF hS hZ ht hwf wf0 lS lK hr hl0 hbr h0 h1
  go_enter Try.func31, Try.ntmps31
  go_upto_region 1 with fail
  generalize w.alloc (.cells Z 35) = w1 at *
  go_wp2_with (first
    | (refine Mem.wpList_build (by rfl) 35 _ #[(0, .int .i64 v)] (.agg C0) (by rfl) (by simp [Act.eval]) BV.out ?_)
    | (refine wpList_store_new (by rfl) 35 _ _ (by rfl) (by rfl) C0 _ _ (by rfl) (by rfl) (by rw [Z0.out]; exact infoHdP) (by rw [Z0.out, ZS.out]) O0.out ?_; rw [HWS.out]; clear hx))
  generalize w1.alloc (.cells C0 35) = W0 at *
  refine (NU1.out _ I0.out.r).mono ?_
  rintro e W1 ⟨rfl, hp⟩
  have I1 := Lib.hid (I0.out.call hp HBR.out)
  clear hp I0 HWS BV
  go_wp2_with (first
    | (refine wpList_conv (by rfl) _ _ _ _ (.int .i64 (n1 : Int)) (by rfl) (by rfl) CV1.out ?_)
    | (refine Mem.wpList_store_one (by rfl) 3 _ _ (by rfl) (by rfl) (w.heap.size + 1) 1 (.int .i64 (n1 : Int)) (by rfl) (by rfl) (by rfl) infoI64t _ 35 I1.out.ag (by rw [Z0.out]; decide) ?_; intro W2 hat ho hk; have I2 : Hid (HkInv w br Z C1 b1 e1 W2.drew) := Lib.hid ((I1.out.store (by rw [SS1.out] at hat; exact hat) ho hk HBR.out).drew HBR.out); clear hat ho hk I1))
  refine wp_region_plan_in (fun _ => True) (.take 0 (.take 1 (.take 2 (.take 3 (.sole 4 (.sole 5 .done)))))) (by kernel_rfl) (by kernel_rfl) (by kernel_rfl) trivial ?_
  refine plan_field 35 _ 2 (w.heap.size + 1) 0 ⟨w.heap.size + 1, 2, none⟩ (by rfl) (by rfl) (by rfl) (by first | (with_reducible exact Mem.ev_const _ _) | (with_reducible exact Mem.ev_zero _ _ _) | (with_reducible (apply Eq.trans (Mem.ev_tmp _ _ _)); simp only [List.getD_cons_succ, List.getD_cons_zero] <;> rfl)) (fun wx => by go_simp) ?_
  (simp only [Act.put, List.setIfInBounds_toArray, List.set_cons_zero, List.set_cons_succ])
  refine plan_field 33 _ 0 (w.heap.size + 1) 2 ⟨w.heap.size + 1, 2, none⟩ (by rfl) (by rfl) (by rfl) (by first | (with_reducible exact Mem.ev_const _ _) | (with_reducible exact Mem.ev_zero _ _ _) | (with_reducible (apply Eq.trans (Mem.ev_tmp _ _ _)); simp only [List.getD_cons_succ, List.getD_cons_zero] <;> rfl)) (fun wx => by go_simp) ?_
  (simp only [Act.put, List.setIfInBounds_toArray, List.set_cons_zero, List.set_cons_succ])
  refine plan_cut 22 _ 16 5 (w.heap.size + 1) 2 (by rfl) (by rfl) (by rfl) (by first | (with_reducible exact Mem.ev_const _ _) | (with_reducible exact Mem.ev_zero _ _ _) | (with_reducible (apply Eq.trans (Mem.ev_tmp _ _ _)); simp only [List.getD_cons_succ, List.getD_cons_zero] <;> rfl)) Try.underlying22 infoB ?_
  (simp only [Act.put, List.setIfInBounds_toArray, List.set_cons_zero, List.set_cons_succ])
  (first | (refine plan_move _ _ (by rfl) (by rfl) (.inl (by rfl)) (by first | (with_reducible exact Mem.ev_const _ _) | (with_reducible exact Mem.ev_zero _ _ _) | (with_reducible (apply Eq.trans (Mem.ev_tmp _ _ _)); simp only [List.getD_cons_succ, List.getD_cons_zero] <;> rfl)) ?_) | (refine plan_move _ _ (by rfl) (by rfl) (.inr (by rfl)) (by first | (with_reducible exact Mem.ev_const _ _) | (with_reducible exact Mem.ev_zero _ _ _) | (with_reducible (apply Eq.trans (Mem.ev_tmp _ _ _)); simp only [List.getD_cons_succ, List.getD_cons_zero] <;> rfl)) ?_) | (refine plan_pick_t _ _ _ _ (by rfl) (by rfl) (by rfl) (by first | (with_reducible exact Mem.ev_const _ _) | (with_reducible exact Mem.ev_zero _ _ _) | (with_reducible (apply Eq.trans (Mem.ev_tmp _ _ _)); simp only [List.getD_cons_succ, List.getD_cons_zero] <;> rfl)) (by first | (with_reducible exact Mem.ev_const _ _) | (with_reducible exact Mem.ev_zero _ _ _) | (with_reducible (apply Eq.trans (Mem.ev_tmp _ _ _)); simp only [List.getD_cons_succ, List.getD_cons_zero] <;> rfl)) ?_) | (refine plan_pick_f _ _ _ _ (by rfl) (by rfl) (by rfl) (by first | (with_reducible exact Mem.ev_const _ _) | (with_reducible exact Mem.ev_zero _ _ _) | (with_reducible (apply Eq.trans (Mem.ev_tmp _ _ _)); simp only [List.getD_cons_succ, List.getD_cons_zero] <;> rfl)) (by first | (with_reducible exact Mem.ev_const _ _) | (with_reducible exact Mem.ev_zero _ _ _) | (with_reducible (apply Eq.trans (Mem.ev_tmp _ _ _)); simp only [List.getD_cons_succ, List.getD_cons_zero] <;> rfl)) ?_))
  (simp only [Act.put, List.setIfInBounds_toArray, List.set_cons_zero, List.set_cons_succ])
  refine plan_call 29 _ _ #[rp br, .int .i64 16] (by kernel_rfl) (by rfl) (by rfl) (by rfl) (by first | exact Mem.ev_none _ | (simp only [List.map_toArray, List.map_cons, List.map_nil, Mem.ev_tmp, List.getD_cons_succ, List.getD_cons_zero] <;> rfl)) ?_
  refine (NU2.out _ I2.out.r).mono ?_
  rintro e Wc ⟨vc, rfl, hs, hp⟩
  have IC := Lib.hid (I2.out.call hp HBR.out); have SC := Lib.hid hs
  clear hp hs I2
  refine ⟨_, rfl, trivial, ?_⟩
  (simp only [Act.put, List.setIfInBounds_toArray, List.set_cons_zero, List.set_cons_succ])
  refine plan_copy_rown 16 _ _ (by rfl) (by rfl) (by rfl) (w.heap.size + 1) 2 C1 35 vc x2 (by first | (with_reducible exact Mem.ev_const _ _) | (with_reducible exact Mem.ev_zero _ _ _) | (with_reducible (apply Eq.trans (Mem.ev_tmp _ _ _)); simp only [List.getD_cons_succ, List.getD_cons_zero] <;> rfl)) (by first | (with_reducible exact Mem.ev_const _ _) | (with_reducible exact Mem.ev_zero _ _ _) | (with_reducible (apply Eq.trans (Mem.ev_tmp _ _ _)); simp only [List.getD_cons_succ, List.getD_cons_zero] <;> rfl)) SC.out LT2.out IC.out.ag (by rw [Z1.out]; decide) C2 SS2.out ?_
  intro nc Wd hat ho hk
  have I3 := Lib.hid (IC.out.store hat ho hk HBR.out)
  clear hat ho hk IC SC
  refine ⟨trivial, ?_⟩
  (simp only [Act.put, List.setIfInBounds_toArray, List.set_cons_zero, List.set_cons_succ])
  refine plan_nil ?_
  generalize Wd = W3 at *
  go_wp2_with fail
  refine (NU3.out _ I3.out.r).mono ?_
  rintro e W4 ⟨rfl, hp⟩
  have I4 := Lib.hid (I3.out.call hp HBR.out)
  clear hp I3
  go_wp2_with (first
    | (refine wpList_conv (by rfl) _ _ _ _ (.int .i64 (n3 : Int)) (by rfl) (by rfl) CV3.out ?_)
    | (refine Mem.wpList_store_one (by rfl) 3 _ _ (by rfl) (by rfl) (w.heap.size + 1) 18 (.int .i64 (n3 : Int)) (by rfl) (by rfl) (by rfl) infoI64t _ 35 I4.out.ag (by rw [Z2.out]; decide) ?_; intro W5 hat ho hk; have I5 : Hid (HkInv w br Z C3 b3 e3 W5.drew) := Lib.hid ((I4.out.store (by rw [SS3.out] at hat; exact hat) ho hk HBR.out).drew HBR.out); clear hat ho hk I4))
  refine wp_region_plan_in (fun _ => True) (.take 0 (.take 1 (.take 2 (.take 3 (.sole 4 (.sole 5 .done)))))) (by kernel_rfl) (by kernel_rfl) (by kernel_rfl) trivial ?_
  refine plan_field 35 _ 2 (w.heap.size + 1) 0 ⟨w.heap.size + 1, 2, none⟩ (by rfl) (by rfl) (by rfl) (by first | (with_reducible exact Mem.ev_const _ _) | (with_reducible exact Mem.ev_zero _ _ _) | (with_reducible (apply Eq.trans (Mem.ev_tmp _ _ _)); simp only [List.getD_cons_succ, List.getD_cons_zero] <;> rfl)) (fun wx => by go_simp) ?_
  (simp only [Act.put, List.setIfInBounds_toArray, List.set_cons_zero, List.set_cons_succ])
  refine plan_field 33 _ 2 (w.heap.size + 1) 2 ⟨w.heap.size + 1, 19, none⟩ (by rfl) (by rfl) (by rfl) (by first | (with_reducible exact Mem.ev_const _ _) | (with_reducible exact Mem.ev_zero _ _ _) | (with_reducible (apply Eq.trans (Mem.ev_tmp _ _ _)); simp only [List.getD_cons_succ, List.getD_cons_zero] <;> rfl)) (fun wx => by go_simp) ?_
  (simp only [Act.put, List.setIfInBounds_toArray, List.set_cons_zero, List.set_cons_succ])
  refine plan_cut 23 _ 32 5 (w.heap.size + 1) 19 (by rfl) (by rfl) (by rfl) (by first | (with_reducible exact Mem.ev_const _ _) | (with_reducible exact Mem.ev_zero _ _ _) | (with_reducible (apply Eq.trans (Mem.ev_tmp _ _ _)); simp only [List.getD_cons_succ, List.getD_cons_zero] <;> rfl)) Try.underlying23 infoB ?_
  (simp only [Act.put, List.setIfInBounds_toArray, List.set_cons_zero, List.set_cons_succ])
  (first | (refine plan_move _ _ (by rfl) (by rfl) (.inl (by rfl)) (by first | (with_reducible exact Mem.ev_const _ _) | (with_reducible exact Mem.ev_zero _ _ _) | (with_reducible (apply Eq.trans (Mem.ev_tmp _ _ _)); simp only [List.getD_cons_succ, List.getD_cons_zero] <;> rfl)) ?_) | (refine plan_move _ _ (by rfl) (by rfl) (.inr (by rfl)) (by first | (with_reducible exact Mem.ev_const _ _) | (with_reducible exact Mem.ev_zero _ _ _) | (with_reducible (apply Eq.trans (Mem.ev_tmp _ _ _)); simp only [List.getD_cons_succ, List.getD_cons_zero] <;> rfl)) ?_) | (refine plan_pick_t _ _ _ _ (by rfl) (by rfl) (by rfl) (by first | (with_reducible exact Mem.ev_const _ _) | (with_reducible exact Mem.ev_zero _ _ _) | (with_reducible (apply Eq.trans (Mem.ev_tmp _ _ _)); simp only [List.getD_cons_succ, List.getD_cons_zero] <;> rfl)) (by first | (with_reducible exact Mem.ev_const _ _) | (with_reducible exact Mem.ev_zero _ _ _) | (with_reducible (apply Eq.trans (Mem.ev_tmp _ _ _)); simp only [List.getD_cons_succ, List.getD_cons_zero] <;> rfl)) ?_) | (refine plan_pick_f _ _ _ _ (by rfl) (by rfl) (by rfl) (by first | (with_reducible exact Mem.ev_const _ _) | (with_reducible exact Mem.ev_zero _ _ _) | (with_reducible (apply Eq.trans (Mem.ev_tmp _ _ _)); simp only [List.getD_cons_succ, List.getD_cons_zero] <;> rfl)) (by first | (with_reducible exact Mem.ev_const _ _) | (with_reducible exact Mem.ev_zero _ _ _) | (with_reducible (apply Eq.trans (Mem.ev_tmp _ _ _)); simp only [List.getD_cons_succ, List.getD_cons_zero] <;> rfl)) ?_))
  (simp only [Act.put, List.setIfInBounds_toArray, List.set_cons_zero, List.set_cons_succ])
  refine plan_call 29 _ _ #[rp br, .int .i64 32] (by kernel_rfl) (by rfl) (by rfl) (by rfl) (by first | exact Mem.ev_none _ | (simp only [List.map_toArray, List.map_cons, List.map_nil, Mem.ev_tmp, List.getD_cons_succ, List.getD_cons_zero] <;> rfl)) ?_
  refine (NU4.out _ I5.out.r).mono ?_
  rintro e Wc ⟨vc, rfl, hs, hp⟩
  have IC := Lib.hid (I5.out.call hp HBR.out); have SC := Lib.hid hs
  clear hp hs I5
  refine ⟨_, rfl, trivial, ?_⟩
  (simp only [Act.put, List.setIfInBounds_toArray, List.set_cons_zero, List.set_cons_succ])
  refine plan_copy_rown 32 _ _ (by rfl) (by rfl) (by rfl) (w.heap.size + 1) 19 C3 35 vc x4 (by first | (with_reducible exact Mem.ev_const _ _) | (with_reducible exact Mem.ev_zero _ _ _) | (with_reducible (apply Eq.trans (Mem.ev_tmp _ _ _)); simp only [List.getD_cons_succ, List.getD_cons_zero] <;> rfl)) (by first | (with_reducible exact Mem.ev_const _ _) | (with_reducible exact Mem.ev_zero _ _ _) | (with_reducible (apply Eq.trans (Mem.ev_tmp _ _ _)); simp only [List.getD_cons_succ, List.getD_cons_zero] <;> rfl)) SC.out LT4.out IC.out.ag (by rw [Z3.out]; decide) C4 SS4.out ?_
  intro nc Wd hat ho hk
  have I6 := Lib.hid (IC.out.store hat ho hk HBR.out)
  clear hat ho hk IC SC
  refine ⟨trivial, ?_⟩
  (simp only [Act.put, List.setIfInBounds_toArray, List.set_cons_zero, List.set_cons_succ])
  refine plan_nil ?_
  generalize Wd = W6 at *
  have I7 := Lib.hid (I6.out.drew HBR.out)
  clear I6
  go_wp2_with fail
  refine wp_region_plan_in (fun _ => True) (.take 0 (.take 1 (.take 2 (.take 3 (.sole 4 (.sole 5 .done)))))) (by kernel_rfl) (by kernel_rfl) (by kernel_rfl) trivial ?_
  refine plan_field 35 _ 2 (w.heap.size + 1) 0 ⟨w.heap.size + 1, 2, none⟩ (by rfl) (by rfl) (by rfl) (by first | (with_reducible exact Mem.ev_const _ _) | (with_reducible exact Mem.ev_zero _ _ _) | (with_reducible (apply Eq.trans (Mem.ev_tmp _ _ _)); simp only [List.getD_cons_succ, List.getD_cons_zero] <;> rfl)) (fun wx => by go_simp) ?_
  (simp only [Act.put, List.setIfInBounds_toArray, List.set_cons_zero, List.set_cons_succ])
  refine plan_field 33 _ 3 (w.heap.size + 1) 2 ⟨w.heap.size + 1, 51, none⟩ (by rfl) (by rfl) (by rfl) (by first | (with_reducible exact Mem.ev_const _ _) | (with_reducible exact Mem.ev_zero _ _ _) | (with_reducible (apply Eq.trans (Mem.ev_tmp _ _ _)); simp only [List.getD_cons_succ, List.getD_cons_zero] <;> rfl)) (fun wx => by go_simp) ?_
  (simp only [Act.put, List.setIfInBounds_toArray, List.set_cons_zero, List.set_cons_succ])
  refine plan_cut 23 _ 32 5 (w.heap.size + 1) 51 (by rfl) (by rfl) (by rfl) (by first | (with_reducible exact Mem.ev_const _ _) | (with_reducible exact Mem.ev_zero _ _ _) | (with_reducible (apply Eq.trans (Mem.ev_tmp _ _ _)); simp only [List.getD_cons_succ, List.getD_cons_zero] <;> rfl)) Try.underlying23 infoB ?_
  (simp only [Act.put, List.setIfInBounds_toArray, List.set_cons_zero, List.set_cons_succ])
  (first | (refine plan_move _ _ (by rfl) (by rfl) (.inl (by rfl)) (by first | (with_reducible exact Mem.ev_const _ _) | (with_reducible exact Mem.ev_zero _ _ _) | (with_reducible (apply Eq.trans (Mem.ev_tmp _ _ _)); simp only [List.getD_cons_succ, List.getD_cons_zero] <;> rfl)) ?_) | (refine plan_move _ _ (by rfl) (by rfl) (.inr (by rfl)) (by first | (with_reducible exact Mem.ev_const _ _) | (with_reducible exact Mem.ev_zero _ _ _) | (with_reducible (apply Eq.trans (Mem.ev_tmp _ _ _)); simp only [List.getD_cons_succ, List.getD_cons_zero] <;> rfl)) ?_) | (refine plan_pick_t _ _ _ _ (by rfl) (by rfl) (by rfl) (by first | (with_reducible exact Mem.ev_const _ _) | (with_reducible exact Mem.ev_zero _ _ _) | (with_reducible (apply Eq.trans (Mem.ev_tmp _ _ _)); simp only [List.getD_cons_succ, List.getD_cons_zero] <;> rfl)) (by first | (with_reducible exact Mem.ev_const _ _) | (with_reducible exact Mem.ev_zero _ _ _) | (with_reducible (apply Eq.trans (Mem.ev_tmp _ _ _)); simp only [List.getD_cons_succ, List.getD_cons_zero] <;> rfl)) ?_) | (refine plan_pick_f _ _ _ _ (by rfl) (by rfl) (by rfl) (by first | (with_reducible exact Mem.ev_const _ _) | (with_reducible exact Mem.ev_zero _ _ _) | (with_reducible (apply Eq.trans (Mem.ev_tmp _ _ _)); simp only [List.getD_cons_succ, List.getD_cons_zero] <;> rfl)) (by first | (with_reducible exact Mem.ev_const _ _) | (with_reducible exact Mem.ev_zero _ _ _) | (with_reducible (apply Eq.trans (Mem.ev_tmp _ _ _)); simp only [List.getD_cons_succ, List.getD_cons_zero] <;> rfl)) ?_))
  (simp only [Act.put, List.setIfInBounds_toArray, List.set_cons_zero, List.set_cons_succ])
  refine plan_call 29 _ _ #[rp br, .int .i64 32] (by kernel_rfl) (by rfl) (by rfl) (by rfl) (by first | exact Mem.ev_none _ | (simp only [List.map_toArray, List.map_cons, List.map_nil, Mem.ev_tmp, List.getD_cons_succ, List.getD_cons_zero] <;> rfl)) ?_
  refine (NU5.out _ I7.out.r).mono ?_
  rintro e Wc ⟨vc, rfl, hs, hp⟩
  have IC := Lib.hid (I7.out.call hp HBR.out); have SC := Lib.hid hs
  clear hp hs I7
  refine ⟨_, rfl, trivial, ?_⟩
  (simp only [Act.put, List.setIfInBounds_toArray, List.set_cons_zero, List.set_cons_succ])
  refine plan_copy_rown 32 _ _ (by rfl) (by rfl) (by rfl) (w.heap.size + 1) 51 C4 35 vc x5 (by first | (with_reducible exact Mem.ev_const _ _) | (with_reducible exact Mem.ev_zero _ _ _) | (with_reducible (apply Eq.trans (Mem.ev_tmp _ _ _)); simp only [List.getD_cons_succ, List.getD_cons_zero] <;> rfl)) (by first | (with_reducible exact Mem.ev_const _ _) | (with_reducible exact Mem.ev_zero _ _ _) | (with_reducible (apply Eq.trans (Mem.ev_tmp _ _ _)); simp only [List.getD_cons_succ, List.getD_cons_zero] <;> rfl)) SC.out LT5.out IC.out.ag (by rw [Z4.out]; decide) C5 SS5.out ?_
  intro nc Wd hat ho hk
  have I8 := Lib.hid (IC.out.store hat ho hk HBR.out)
  clear hat ho hk IC SC
  refine ⟨trivial, ?_⟩
  (simp only [Act.put, List.setIfInBounds_toArray, List.set_cons_zero, List.set_cons_succ])
  refine plan_nil ?_
  generalize Wd = W8 at *
  go_wp2_with fail
  refine (NU6.out _ I8.out.r).mono ?_
  rintro e W9 ⟨v9, rfl, hs9, hp⟩
  have I9 := Lib.hid (I8.out.call hp HBR.out)
  obtain ⟨a9, c9, rfl⟩ := sl_hdw hs9
  have S9 := Lib.hid hs9
  clear hp hs9 I8
  go_wp2_with (first
    | (refine wpList_conv_at (by rfl) _ _ _ _ (.string S) (by rfl) (by rfl) (CVS.out _ _ _ S9.out) ?_)
    | (refine Mem.wpList_store_one (by rfl) 9 _ _ (by rfl) (by rfl) (w.heap.size + 1) 83 (.string S) (by rfl) (by rfl) (by rfl) infoStrt _ 35 I9.out.ag (by rw [Z5.out]; decide) ?_; intro W10 hat ho hk; have I10 : Hid (HkInv w br Z F b6 e6 W10) := Lib.hid (I9.out.store (by rw [SS6.out] at hat; exact hat) ho hk HBR.out); clear hat ho hk I9)
    | (refine wpList_load_all (by rfl) 35 _ (by rfl) (w.heap.size + 1) (by rfl) _ Try.underlying35 (by rfl) F _ I10.out.ag (by rw [FS.out]; exact infoHdP) ?_)
    | (refine wpList_store_all (by rfl) 35 _ _ (by rfl) (by rfl) w.heap.size F (by rfl) (by rfl) (by rw [FS.out]; exact infoHdP) Z 35 I10.out.ar (by rw [ZS.out, FS.out]) FO.out ?_))
  try simp only [Exit.inBlock, Exit.then]
  refine ret_row (by rfl) w.heap.size 35 F _ (by rfl) (At.row (C := Z) I10.out.ar F) Try.underlying35 (by rfl) (by rw [FS.out]; exact infoHdP) ?_
  exact ⟨rfl, I10.out.done HBR.out⟩
end Sha
end Go.Proofs.Ytbnjihpafipbnaa
namespace Go.Proofs.Ytbnjihpafipbnaa
namespace Sha
open Go.RowKit Mem
set_option maxRecDepth 100000 in
set_option maxHeartbeats 8000000 in
theorem pshared11_any (h : HdV) (hw : h.Wf) (hm : mayH h = true) (w : World) : Calls Try.prog 21 #[.agg (hdC h)] w (TwoEnd w (hdB1 h) 0) := by
  obtain ⟨hv0, hv1, hp0, hp1, hr0, hr1, hl⟩ := (mayH_iff h).1 hm
  obtain ⟨M, hM⟩ : ∃ M, M = hdC h := ⟨_, rfl⟩
  have ms : M.size = 84 := by rw [hM]; exact hdC_size hw
  have eS := hd_salt hw; have eK := hd_key hw; have eC := hd_ck hw; have cv := hd_ver h; have cp := hd_pages h; have cr := hd_r hw; have cl := hd_lab hw
  have wS := hw.wr.salt; have wK := hw.wr.key; have wC := hw.wr.ck
  obtain ⟨S, hS⟩ : ∃ S, S = strOfNums (i8s h.lab) := ⟨_, rfl⟩
  rw [← hM] at eS eK eC cv cp cr cl ⊢
  rw [← hS] at cl
  have hA := at_new w M 35
  have hb : Below w.heap.size w (w.alloc (.cells M 35)) := (Below.refl _ _).alloc (Nat.le_refl _) _
  obtain ⟨w1, hw1⟩ : ∃ w1, w1 = w.alloc (.cells M 35) := ⟨_, rfl⟩
  rw [← hw1] at hA hb
  obtain ⟨nv, hnv⟩ : ∃ n, n = h.ver.toNat := ⟨_, rfl⟩
  have cvv := fun wx => conv_iu h.ver (by omega) (by omega) wx
  rw [← hnv] at cvv
  obtain ⟨np, hnp⟩ : ∃ n, n = h.pages.toNat := ⟨_, rfl⟩
  have cvp := fun wx => conv_iu h.pages (by omega) (by omega) wx
  rw [← hnp] at cvp
  obtain ⟨nr, hnr⟩ : ∃ n, n = h.wr.r.toNat := ⟨_, rfl⟩
  have cvr := fun wx => conv_iu h.wr.r (by omega) (by omega) wx
  rw [← hnr] at cvr
  obtain ⟨L1, hL1⟩ : ∃ L, L = carl ++ nbytes nv 1 := ⟨_, rfl⟩
  have ln1 : L1.length = 5 := by rw [hL1, List.length_append, nbytes_length]; rfl
  obtain ⟨L2, hL2⟩ : ∃ L, L = L1 ++ nbytes np 2 := ⟨_, rfl⟩
  have ln2 : L2.length = 7 := by rw [hL2, List.length_append, nbytes_length, ln1]
  obtain ⟨L3, hL3⟩ : ∃ L, L = L2 ++ h.wr.salt := ⟨_, rfl⟩
  have ln3 : L3.length = 23 := by rw [hL3, List.length_append, wS, ln2]
  obtain ⟨L4, hL4⟩ : ∃ L, L = L3 ++ nbytes nr 4 := ⟨_, rfl⟩
  have ln4 : L4.length = 27 := by rw [hL4, List.length_append, nbytes_length, ln3]
  obtain ⟨L5, hL5⟩ : ∃ L, L = L4 ++ h.wr.key := ⟨_, rfl⟩
  have ln5 : L5.length = 59 := by rw [hL5, List.length_append, wK, ln4]
  obtain ⟨L6, hL6⟩ : ∃ L, L = L5 ++ h.wr.ck := ⟨_, rfl⟩
  have ln6 : L6.length = 91 := by rw [hL6, List.length_append, wC, ln5]
  have e7 : L6 ++ textB h.lab 24 = hdB1 h := by rw [hL6, hL5, hL4, hL3, hL2, hL1, hnv, hnp, hnr]; simp only [hdB1, List.append_assoc]
  have nu1 : ∀ v wx, Sl wx v carl → Calls Try.prog 22 #[v, .int .u64 (nv : Int), .int .i64 1] wx (SEnd wx L1) := fun v wx hs => by rw [hL1]; exact num1_any _ nv v wx hs (by decide) (by omega)
  have nu2 : ∀ v wx, Sl wx v L1 → Calls Try.prog 22 #[v, .int .u64 (np : Int), .int .i64 2] wx (SEnd wx L2) := fun v wx hs => by rw [hL2]; exact num2_any _ np v wx hs (by rw [ln1]; decide) (by omega)
  have nu4 : ∀ v wx, Sl wx v L3 → Calls Try.prog 22 #[v, .int .u64 (nr : Int), .int .i64 4] wx (SEnd wx L4) := fun v wx hs => by rw [hL4]; exact num4_any _ nr v wx hs (by rw [ln3]; decide) (by omega)
  have tx : ∀ v u wx, Sl wx v L6 → Sl wx u h.lab → Calls Try.prog 33 #[v, u, .int .i64 24] wx (TwoEnd wx (hdB1 h) 0) := fun v u wx hs hu => by rw [← e7]; exact ptextput_any L6 h.lab 24 v u wx hs hu (by rw [ln6]; decide) (by decide) (by decide) hl
  have AX := Lib.hid hA; have HB := Lib.hid hb; have MS := Lib.hid ms; have NU1 := Lib.hid nu1; have NU2 := Lib.hid nu2; have NU4 := Lib.hid nu4; have TX := Lib.hid tx; have CVV := Lib.hid cvv; have CVP := Lib.hid cvp; have CVR := Lib.hid cvr
  have ES := Lib.hid eS; have EK := Lib.hid eK; have EC := Lib.hid eC; have LS := Lib.hid wS; have LK := Lib.hid wK; have LC := Lib.hid wC; have CV := Lib.hid cv; have CP := Lib.hid cp; have CR := Lib.hid cr; have CL := Lib.hid cl; have HS := Lib.hid hS
  have LN1 := Lib.hid ln1; have LN2 := Lib.hid ln2; have LN4 := Lib.hid ln4; have LN5 := Lib.hid ln5; have HL3 := Lib.hid hL3; have HL5 := Lib.hid hL5; have HL6 := Lib.hid hL6
  obtain ⟨ver, hvv⟩ : ∃ v, v = h.ver := ⟨_, rfl⟩
  rw [← hvv] at CV CVV
  obtain ⟨pgs, hpp⟩ : ∃ v, v = h.pages := ⟨_, rfl⟩
  rw [← hpp] at CP CVP
  obtain ⟨rds, hrr⟩ : ∃ v, v = h.wr.r := ⟨_, rfl⟩
  rw [← hrr] at CR CVR
  have c0 : w1.cell? ⟨w.heap.size, 0, none⟩ = some (.int .i64 ver) := (AX.out.cell 0).trans CV.out
  clear hA hb ms nu1 nu2 nu4 tx cvv cvp cvr hM hnv hnp hnr hL1 hL2 hL3 hL4 hL5 hL6 ln1 ln2 ln3 ln4 ln5 ln6 e7 hw hm hS hv0 hv1 hp0 hp1 hr0 hr1 hl hvv hpp hrr eS eK eC cv cp cr cl wS wK wC
  go_enter Try.func21, Try.ntmps21
  go_upto_region 1 with fail
  rw [← hw1]
  clear hw1
  go_wp2_with (first
    | (refine wpList_conv_const (by rfl) _ (by rfl) carl 4 (by rfl) (by rfl) (by rfl) ?_; intro w3 hs3 hb3; have S3 := Lib.hid hs3; have B3 : Hid (Below w1.heap.size w1 w3) := Lib.hid hb3; have c3 : w3.cell? ⟨w.heap.size, 0, none⟩ = some (.int .i64 ver) := (hb3.cell (p := ⟨w.heap.size, 0, none⟩) AX.out.lt).trans c0; clear hs3 hb3)
    | (refine wpList_conv (by rfl) _ _ _ _ (.int .u64 (nv : Int)) (by rfl) (by rfl) CVV.out ?_))
  refine (NU1.out _ _ S3.out).mono ?_
  rintro e w4 ⟨g, rfl, ha, hg, hb⟩
  have B4 : Hid (Below w1.heap.size w1 w4) := Lib.hid (B3.out.trans (hb.mono B3.out.size))
  have S4 := Lib.hid (at_sl ha LN1.out)
  rw [LN1.out]
  have c1 := ((AX.out.below B4.out AX.out.lt).cell 1).trans CP.out
  clear ha hg hb c0 c3 S3 B3
  go_wp2_with (refine wpList_conv (by rfl) _ _ _ _ (.int .u64 (np : Int)) (by rfl) (by rfl) CVP.out ?_)
  refine (NU2.out _ _ S4.out).mono ?_
  rintro e w5 ⟨g5, rfl, ha, hg, hb⟩
  have B5 : Hid (Below w1.heap.size w1 w5) := Lib.hid (B4.out.trans (hb.mono B4.out.size))
  have O5 : Hid (OwnB w5 w1.heap.size (.slice (some ⟨g5, 0, none⟩) 7 7) L2) := Lib.hid (by have h := own_fulls ha (Nat.le_trans B4.out.size hg) (by rw [LN2.out]; decide); rw [LN2.out] at h; exact h)
  rw [LN2.out]
  clear ha hg hb c1 S4
  go_wp2_with (first
    | (refine wpList_slice_arr (by rfl) 22 _ (by rfl) 16 5 w.heap.size 2 (by rfl) Try.underlying22 infoB ?_)
    | (at_builtin; refine wpList_append_bytes (by rfl) _ _ (by rfl) w1.heap.size (.slice (some ⟨g5, 0, none⟩) 7 7) (.slice (some ⟨w.heap.size, 2, none⟩) 16 16) L2 h.wr.salt (by rfl) O5.out (by rfl) (sl_part (AX.out.below B5.out AX.out.lt) ES.out LS.out (by rw [MS.out]; decide)) (by rw [LN2.out, LS.out]; decide) B5.out.size ?_; intro v6 w6 ho6 _ hb6; have B6 : Hid (Below w1.heap.size w1 w6) := Lib.hid (B5.out.trans hb6); have S6 : Hid (Sl w6 v6 L3) := (by rw [HL3.out]; exact ho6.sl); have c18 := ((AX.out.below B6.out AX.out.lt).cell 18).trans CR.out; clear ho6 hb6)
    | (refine wpList_conv (by rfl) _ _ _ _ (.int .u64 (nr : Int)) (by rfl) (by rfl) CVR.out ?_))
  refine (NU4.out _ _ S6.out).mono ?_
  rintro e w7 ⟨g7, rfl, ha, hg, hb⟩
  have B7 : Hid (Below w1.heap.size w1 w7) := Lib.hid (B6.out.trans (hb.mono B6.out.size))
  have O7 : Hid (OwnB w7 w1.heap.size (.slice (some ⟨g7, 0, none⟩) 27 27) L4) := Lib.hid (by have h := own_fulls ha (Nat.le_trans B6.out.size hg) (by rw [LN4.out]; decide); rw [LN4.out] at h; exact h)
  rw [LN4.out]
  clear ha hg hb c18 S6 O5
  go_wp2_with (first
    | (refine wpList_slice_arr (by rfl) 23 _ (by rfl) 32 5 w.heap.size 19 (by rfl) Try.underlying23 infoB ?_)
    | (refine wpList_slice_arr (by rfl) 23 _ (by rfl) 32 5 w.heap.size 51 (by rfl) Try.underlying23 infoB ?_)
    | (at_builtin; refine wpList_append_bytes (by rfl) _ _ (by rfl) w1.heap.size (.slice (some ⟨g7, 0, none⟩) 27 27) (.slice (some ⟨w.heap.size, 19, none⟩) 32 32) L4 h.wr.key (by rfl) O7.out (by rfl) (sl_part (AX.out.below B7.out AX.out.lt) EK.out LK.out (by rw [MS.out]; decide)) (by rw [LN4.out, LK.out]; decide) B7.out.size ?_; intro v8 w8 ho8 _ hb8; have B8 : Hid (Below w1.heap.size w1 w8) := Lib.hid (B7.out.trans hb8); have O8 : Hid (OwnB w8 w1.heap.size v8 L5) := (by rw [HL5.out]; exact ho8); clear ho8 hb8)
    | (at_builtin; refine wpList_append_bytes (by rfl) _ _ (by rfl) w1.heap.size v8 (.slice (some ⟨w.heap.size, 51, none⟩) 32 32) L5 h.wr.ck (by rfl) O8.out (by rfl) (sl_part (AX.out.below B8.out AX.out.lt) EC.out LC.out (by rw [MS.out]; decide)) (by rw [LN5.out, LC.out]; decide) B8.out.size ?_; intro v9 w9 ho9 _ hb9; have B9 : Hid (Below w1.heap.size w1 w9) := Lib.hid (B8.out.trans hb9); have S9 : Hid (Sl w9 v9 L6) := (by rw [HL6.out]; exact ho9.sl); have c83 := ((AX.out.below B9.out AX.out.lt).cell 83).trans CL.out; clear ho9 hb9)
    | (refine wpList_conv_str (by rfl) _ (by rfl) h.lab S HS.out (by rfl) ?_; intro bq cq wq hsq hbq; have TQ := Lib.hid hsq; have SQ : Hid (Sl wq v9 L6) := Lib.hid (S9.out.below hbq); have BQ : Hid (Below w1.heap.size w1 wq) := Lib.hid (B9.out.trans (hbq.mono B9.out.size)); clear hsq hbq))
  refine (TX.out _ _ _ SQ.out TQ.out).mono ?_
  rintro e w10 ⟨v10, rfl, ho, hb⟩
  have SR := Lib.hid ho
  have DR : Hid (Below w.heap.size w w10) := Lib.hid (HB.out.trans ((BQ.out.trans (hb.mono BQ.out.size)).mono HB.out.size))
  clear ho hb
  go_wp2_with fail
  go_ret2
  exact ⟨v10, rfl, SR.out, DR.out⟩
theorem laid_two (B1 n4 : List (BitVec 8)) (h1 : B1.length = 116) (h2 : n4.length = 4) : laidL (laidL (List.replicate 256 0) 116 n4) 0 B1 = B1 ++ n4 ++ List.replicate (256 - (B1 ++ n4).length) 0 := by
  have e : laidL (List.replicate 256 0) 116 n4 = List.replicate 116 0 ++ (n4 ++ List.replicate 136 0) := by
    unfold laidL
    rw [List.take_replicate, List.drop_replicate, h2, List.append_assoc]
    rfl
  rw [e]
  unfold laidL
  rw [List.take_zero, List.nil_append, Nat.zero_add, h1, List.drop_append, List.drop_eq_nil_of_le (by simp), List.length_replicate, Nat.sub_self, List.drop_zero, List.nil_append, List.length_append, h1, h2, List.append_assoc]
theorem laid_one (B1 : List (BitVec 8)) (_h1 : B1.length = 116) : laidL (List.replicate 256 0) 0 B1 = B1 ++ List.replicate (256 - B1.length) 0 := by
  unfold laidL
  rw [List.take_zero, List.nil_append, Nat.zero_add, List.drop_replicate]
theorem plan_from {ops : Array Oper} {Q : Exit → Act → World → Prop} {S : World → Prop} {w : World} {a : Act} {o : Oper} {i : Nat} {r : Plan} (x j : Operand) (ho : ops.toList[i]? = some o) (hw : Region.wanted o (yielded ops a.tmps) = true) (hop : o.op = .slice 28 x (some j) none none)
    (g n m : Nat) (hx : a.eval x = .slice (some ⟨g, 0, none⟩) n n) (hj : a.eval j = .int .i64 (m : Int)) (hm : m < n)
    (h : wpPlan Try.prog ops Q S r (a.put o.dst (.slice (some ⟨g, m, none⟩) (n - m) (n - m))) w) : wpPlan Try.prog ops Q S (.take i r) a w :=
  plan_piece_from 28 x j ho hw hop Try.underlying28 (some ⟨g, 0, none⟩) n n m hx hj (by omega) (Nat.le_refl _) (by
    have e : pieceA (some (⟨g, 0, none⟩ : Addr)) n m = some ⟨g, m, none⟩ := by rw [pieceA, if_neg (by omega)]; simp [Addr.add_mid]
    rw [e]; exact h)
set_option maxRecDepth 100000 in
set_option maxHeartbeats 8000000 in
theorem play11_two (h : HdV) (hw : h.Wf) (hm : mayH h = true) (hver : h.ver = 2) (w : World) : Calls Try.prog 8 #[.agg (hdC h)] w (TwoOwn w (layH h) 0) := by
  have hmay := fun wx => pmay11_any h hw wx
  rw [hm] at hmay
  have hsh := fun wx => pshared11_any h hw hm wx
  have hl := ((mayH_iff h).1 hm).2.2.2.2.2.2
  have hlen := hdB1_length hw hl
  obtain ⟨i8, hi8, hz8, hs8, hb8⟩ := info_parts infoU8
  obtain ⟨B1, hB1⟩ : ∃ B, B = hdB1 h := ⟨_, rfl⟩
  have hlay : laidL (laidL (List.replicate 256 0) 116 (nbytes (sumN B1) 4)) 0 B1 = layH h := by
    unfold layH hdB2
    rw [if_pos hver, ← hB1, laid_two B1 _ (by rw [hB1]; exact hlen) (nbytes_length _ _)]
  have hlen2 : (layH h).length = 256 := layH_length hw hl
  rw [← hB1] at hsh hlen
  have su : ∀ v wx, Sl wx v B1 → Calls Try.prog 17 #[v] wx fun e w' => e = .returned (.int .u32 ((sumN B1 : Nat) : Int)) ∧ wx = w' := fun v wx hs => psum11_any B1 v wx (by rw [hlen]; decide) hs
  have nu : ∀ wx, Calls Try.prog 22 #[.slice none 0 0, .int .u64 ((sumN B1 : Nat) : Int), .int .i64 4] wx (SEnd wx (nbytes (sumN B1) 4)) := fun wx => num4_any [] (sumN B1) (.slice none 0 0) wx (sl_none _) (by decide) (Nat.lt_trans (sumN_lt _) (by decide))
  have cvs := fun wx => conv_uu (sumN B1) (sumN_lt _) wx
  have hn4 : (nbytes (sumN B1) 4).length = 4 := nbytes_length _ _
  obtain ⟨q, hq⟩ : ∃ q, q = sumN B1 := ⟨_, rfl⟩
  rw [← hq] at su nu cvs hn4
  try rw [← hq] at hlay
  obtain ⟨M, hM⟩ : ∃ M, M = hdC h := ⟨_, rfl⟩
  have ms : M.size = 84 := by rw [hM]; exact hdC_size hw
  have cv := hd_ver h
  rw [hver, ← hM] at cv
  rw [← hM] at hmay hsh ⊢
  have hA := at_new w M 35
  have hb : Below w.heap.size w (w.alloc (.cells M 35)) := (Below.refl _ _).alloc (Nat.le_refl _) _
  obtain ⟨w1, hw1⟩ : ∃ w1, w1 = w.alloc (.cells M 35) := ⟨_, rfl⟩
  rw [← hw1] at hA hb
  have MAY := Lib.hid hmay; have SH := Lib.hid hsh; have AX := Lib.hid hA; have HB := Lib.hid hb; have MS := Lib.hid ms; have SU := Lib.hid su; have NU := Lib.hid nu; have CVS := Lib.hid cvs; have HLEN := Lib.hid hlen; have HLAY := Lib.hid hlay; have LL := Lib.hid hlen2; have CV := Lib.hid cv; have HN4 := Lib.hid hn4
  have I8 := Lib.hid hi8; have Z8 := Lib.hid hz8; have S8 := Lib.hid hs8; have B8' := Lib.hid hb8
  clear hmay hsh hA hb ms su nu cvs hlen hlay hlen2 cv hn4 hi8 hz8 hs8 hb8 hM hq hB1 hl hver hm hw
  go_enter Try.func8, Try.ntmps8
  go_upto_region 1 with fail
  rw [← hw1]
  clear hw1
  go_wp2_with (refine wpList_load_all (by rfl) 35 _ (by rfl) w.heap.size (by rfl) _ Try.underlying35 (by rfl) M _ AX.out (by rw [MS.out]; exact infoHdP) ?_)
  refine (MAY.out w1).mono ?_
  rintro e w2 ⟨rfl, hb2⟩
  have B2 := Lib.hid hb2
  have A2 := Lib.hid (AX.out.below hb2 AX.out.lt)
  clear hb2 MAY
  go_wp2_with (refine wpList_load_all (by rfl) 35 _ (by rfl) w.heap.size (by rfl) _ Try.underlying35 (by rfl) M _ A2.out (by rw [MS.out]; exact infoHdP) ?_)
  refine (SH.out w2).mono ?_
  rintro e w3 ⟨v3, rfl, hs3, hb3⟩
  obtain ⟨a3, c3, rfl⟩ := sl_hdw hs3
  rw [HLEN.out] at hs3 ⊢
  have S3 := Lib.hid hs3
  have B3 : Hid (Below w1.heap.size w1 w3) := Lib.hid (B2.out.trans (hb3.mono B2.out.size))
  clear hs3 hb3 SH A2 B2
  go_wp2_with (refine wpList_make_full _ (by rfl) _ _ 28 (by rfl) w3.heap.size 5 i8 (.int .u8 0) 1 Try.underlying28 I8.out Z8.out S8.out .i64 .i64 256 256 256 (by rfl) (by rfl) (by rfl) (by rfl) (by rw [B8'.out]; decide) (by decide) (Nat.le_refl _) ?_; intro w4 ho4 hg4; have R4 : Hid (At w4 w3.heap.size (u8s (List.replicate 256 0)).toArray 5) := (by have h := own_full ho4; rw [made_zeros] at h; exact h); have K4 : Hid (Below w3.heap.size w3 w4) := Lib.hid ((Below.refl _ _).grown hg4 (Nat.le_refl _) (fun _ h => by cases h)); have c4 : w4.cell? ⟨w.heap.size, 0, none⟩ = some (.int .i64 2) := ((AX.out.below (B3.out.trans (K4.out.mono B3.out.size)) AX.out.lt).cell 0).trans CV.out; clear ho4 hg4)
  have S4 := Lib.hid (S3.out.below K4.out)
  have S0 : Hid (Sl w4.drew (.slice a3 116 c3) B1) := Lib.hid (S4.out.below (Below.refl _ _).drew)
  have K0 : Hid (Below w3.heap.size w3 w4.drew) := Lib.hid K4.out.drew
  have R0 : Hid (At w4.drew w3.heap.size (u8s (List.replicate 256 0)).toArray 5) := Lib.hid R4.out
  go_wp2_with fail
  refine wp_region_plan_in (fun x => Below w3.heap.size w3 x) (.take 0 (.take 1 (.take 2 (.take 3 (.take 4 (.sole 5 (.take 6 (.sole 7 (.sole 8 .done))))))))) (by kernel_rfl) (by kernel_rfl) (by kernel_rfl) K0.out ?_
  (first | (refine plan_move _ _ (by rfl) (by rfl) (.inl (by rfl)) (by first | (with_reducible exact Mem.ev_const _ _) | (with_reducible exact Mem.ev_zero _ _ _) | (with_reducible (apply Eq.trans (Mem.ev_tmp _ _ _)); simp only [List.getD_cons_succ, List.getD_cons_zero] <;> rfl)) ?_) | (refine plan_move _ _ (by rfl) (by rfl) (.inr (by rfl)) (by first | (with_reducible exact Mem.ev_const _ _) | (with_reducible exact Mem.ev_zero _ _ _) | (with_reducible (apply Eq.trans (Mem.ev_tmp _ _ _)); simp only [List.getD_cons_succ, List.getD_cons_zero] <;> rfl)) ?_) | (refine plan_pick_t _ _ _ _ (by rfl) (by rfl) (by rfl) (by first | (with_reducible exact Mem.ev_const _ _) | (with_reducible exact Mem.ev_zero _ _ _) | (with_reducible (apply Eq.trans (Mem.ev_tmp _ _ _)); simp only [List.getD_cons_succ, List.getD_cons_zero] <;> rfl)) (by first | (with_reducible exact Mem.ev_const _ _) | (with_reducible exact Mem.ev_zero _ _ _) | (with_reducible (apply Eq.trans (Mem.ev_tmp _ _ _)); simp only [List.getD_cons_succ, List.getD_cons_zero] <;> rfl)) ?_) | (refine plan_pick_f _ _ _ _ (by rfl) (by rfl) (by rfl) (by first | (with_reducible exact Mem.ev_const _ _) | (with_reducible exact Mem.ev_zero _ _ _) | (with_reducible (apply Eq.trans (Mem.ev_tmp _ _ _)); simp only [List.getD_cons_succ, List.getD_cons_zero] <;> rfl)) (by first | (with_reducible exact Mem.ev_const _ _) | (with_reducible exact Mem.ev_zero _ _ _) | (with_reducible (apply Eq.trans (Mem.ev_tmp _ _ _)); simp only [List.getD_cons_succ, List.getD_cons_zero] <;> rfl)) ?_))
  (simp only [Act.put, List.setIfInBounds_toArray, List.set_cons_zero, List.set_cons_succ])
  (first | (refine plan_move _ _ (by rfl) (by rfl) (.inl (by rfl)) (by first | (with_reducible exact Mem.ev_const _ _) | (with_reducible exact Mem.ev_zero _ _ _) | (with_reducible (apply Eq.trans (Mem.ev_tmp _ _ _)); simp only [List.getD_cons_succ, List.getD_cons_zero] <;> rfl)) ?_) | (refine plan_move _ _ (by rfl) (by rfl) (.inr (by rfl)) (by first | (with_reducible exact Mem.ev_const _ _) | (with_reducible exact Mem.ev_zero _ _ _) | (with_reducible (apply Eq.trans (Mem.ev_tmp _ _ _)); simp only [List.getD_cons_succ, List.getD_cons_zero] <;> rfl)) ?_) | (refine plan_pick_t _ _ _ _ (by rfl) (by rfl) (by rfl) (by first | (with_reducible exact Mem.ev_const _ _) | (with_reducible exact Mem.ev_zero _ _ _) | (with_reducible (apply Eq.trans (Mem.ev_tmp _ _ _)); simp only [List.getD_cons_succ, List.getD_cons_zero] <;> rfl)) (by first | (with_reducible exact Mem.ev_const _ _) | (with_reducible exact Mem.ev_zero _ _ _) | (with_reducible (apply Eq.trans (Mem.ev_tmp _ _ _)); simp only [List.getD_cons_succ, List.getD_cons_zero] <;> rfl)) ?_) | (refine plan_pick_f _ _ _ _ (by rfl) (by rfl) (by rfl) (by first | (with_reducible exact Mem.ev_const _ _) | (with_reducible exact Mem.ev_zero _ _ _) | (with_reducible (apply Eq.trans (Mem.ev_tmp _ _ _)); simp only [List.getD_cons_succ, List.getD_cons_zero] <;> rfl)) (by first | (with_reducible exact Mem.ev_const _ _) | (with_reducible exact Mem.ev_zero _ _ _) | (with_reducible (apply Eq.trans (Mem.ev_tmp _ _ _)); simp only [List.getD_cons_succ, List.getD_cons_zero] <;> rfl)) ?_))
  (simp only [Act.put, List.setIfInBounds_toArray, List.set_cons_zero, List.set_cons_succ])
  refine plan_len _ _ _ a3 116 c3 (by rfl) (by rfl) (by rfl) (by rfl) (by first | (with_reducible exact Mem.ev_const _ _) | (with_reducible exact Mem.ev_zero _ _ _) | (with_reducible (apply Eq.trans (Mem.ev_tmp _ _ _)); simp only [List.getD_cons_succ, List.getD_cons_zero] <;> rfl)) (fun w' => by first | rfl | go_simp) ?_
  (simp only [Act.put, List.setIfInBounds_toArray, List.set_cons_zero, List.set_cons_succ])
  refine plan_from _ _ (by rfl) (by rfl) (by rfl) w3.heap.size 256 116 (by first | (with_reducible exact Mem.ev_const _ _) | (with_reducible exact Mem.ev_zero _ _ _) | (with_reducible (apply Eq.trans (Mem.ev_tmp _ _ _)); simp only [List.getD_cons_succ, List.getD_cons_zero] <;> rfl)) (by first | (with_reducible exact Mem.ev_const _ _) | (with_reducible exact Mem.ev_zero _ _ _) | (with_reducible (apply Eq.trans (Mem.ev_tmp _ _ _)); simp only [List.getD_cons_succ, List.getD_cons_zero] <;> rfl)) (by decide) ?_
  (simp only [Act.put, List.setIfInBounds_toArray, List.set_cons_zero, List.set_cons_succ])
  (first | (refine plan_move _ _ (by rfl) (by rfl) (.inl (by rfl)) (by first | (with_reducible exact Mem.ev_const _ _) | (with_reducible exact Mem.ev_zero _ _ _) | (with_reducible (apply Eq.trans (Mem.ev_tmp _ _ _)); simp only [List.getD_cons_succ, List.getD_cons_zero] <;> rfl)) ?_) | (refine plan_move _ _ (by rfl) (by rfl) (.inr (by rfl)) (by first | (with_reducible exact Mem.ev_const _ _) | (with_reducible exact Mem.ev_zero _ _ _) | (with_reducible (apply Eq.trans (Mem.ev_tmp _ _ _)); simp only [List.getD_cons_succ, List.getD_cons_zero] <;> rfl)) ?_) | (refine plan_pick_t _ _ _ _ (by rfl) (by rfl) (by rfl) (by first | (with_reducible exact Mem.ev_const _ _) | (with_reducible exact Mem.ev_zero _ _ _) | (with_reducible (apply Eq.trans (Mem.ev_tmp _ _ _)); simp only [List.getD_cons_succ, List.getD_cons_zero] <;> rfl)) (by first | (with_reducible exact Mem.ev_const _ _) | (with_reducible exact Mem.ev_zero _ _ _) | (with_reducible (apply Eq.trans (Mem.ev_tmp _ _ _)); simp only [List.getD_cons_succ, List.getD_cons_zero] <;> rfl)) ?_) | (refine plan_pick_f _ _ _ _ (by rfl) (by rfl) (by rfl) (by first | (with_reducible exact Mem.ev_const _ _) | (with_reducible exact Mem.ev_zero _ _ _) | (with_reducible (apply Eq.trans (Mem.ev_tmp _ _ _)); simp only [List.getD_cons_succ, List.getD_cons_zero] <;> rfl)) (by first | (with_reducible exact Mem.ev_const _ _) | (with_reducible exact Mem.ev_zero _ _ _) | (with_reducible (apply Eq.trans (Mem.ev_tmp _ _ _)); simp only [List.getD_cons_succ, List.getD_cons_zero] <;> rfl)) ?_))
  (simp only [Act.put, List.setIfInBounds_toArray, List.set_cons_zero, List.set_cons_succ])
  refine plan_call 17 _ _ _ (by kernel_rfl) (by rfl) (by rfl) (by rfl) (by first | exact Mem.ev_none _ | (simp only [List.map_toArray, List.map_cons, List.map_nil, Mem.ev_tmp, List.getD_cons_succ, List.getD_cons_zero] <;> rfl)) ?_
  refine (SU.out _ _ S0.out).mono ?_
  rintro e w' ⟨rfl, rfl⟩
  refine ⟨_, rfl, K0.out, ?_⟩
  (simp only [Act.put, List.setIfInBounds_toArray, List.set_cons_zero, List.set_cons_succ])
  refine plan_conv _ _ _ _ (.int .u64 (q : Int)) (by rfl) (by rfl) (by rfl) (by first | (with_reducible exact Mem.ev_const _ _) | (with_reducible exact Mem.ev_zero _ _ _) | (with_reducible (apply Eq.trans (Mem.ev_tmp _ _ _)); simp only [List.getD_cons_succ, List.getD_cons_zero] <;> rfl)) CVS.out ?_
  (simp only [Act.put, List.setIfInBounds_toArray, List.set_cons_zero, List.set_cons_succ])
  refine plan_call 22 _ _ #[.slice none 0 0, .int .u64 (q : Int), .int .i64 4] (by kernel_rfl) (by rfl) (by rfl) (by rfl) (by simp only [List.map_toArray, List.map_cons, List.map_nil, Mem.ev_tmp, List.getD_cons_succ, List.getD_cons_zero] <;> rfl) ?_
  refine (NU.out _).mono ?_
  rintro e w5 ⟨g5, rfl, ha, hg, hb⟩
  have K5 : Hid (Below w3.heap.size w3 w5) := Lib.hid (K0.out.trans (hb.mono K0.out.size)); have R5 := Lib.hid (R0.out.below hb R0.out.lt); have S5 := Lib.hid (S0.out.below hb); have T5 := Lib.hid (at_sl ha HN4.out)
  rw [HN4.out]
  clear ha hg hb
  refine ⟨_, rfl, K5.out, ?_⟩
  (simp only [Act.put, List.setIfInBounds_toArray, List.set_cons_zero, List.set_cons_succ])
  refine plan_copy_sl _ _ (by rfl) (by rfl) (by rfl) w3.heap.size 116 (256 - 116) (256 - 116) (.slice (some ⟨g5, 0, none⟩) 4 4) (nbytes q 4) (List.replicate 256 0) (by first | (with_reducible exact Mem.ev_const _ _) | (with_reducible exact Mem.ev_zero _ _ _) | (with_reducible (apply Eq.trans (Mem.ev_tmp _ _ _)); simp only [List.getD_cons_succ, List.getD_cons_zero] <;> rfl)) (by first | (with_reducible exact Mem.ev_const _ _) | (with_reducible exact Mem.ev_zero _ _ _) | (with_reducible (apply Eq.trans (Mem.ev_tmp _ _ _)); simp only [List.getD_cons_succ, List.getD_cons_zero] <;> rfl)) T5.out (by intro e; have h := HN4.out; rw [e] at h; simp at h) (by rw [HN4.out]; decide) R5.out (by rw [HN4.out, List.length_replicate]; decide) ?_
  intro w6 ha hz ho hk
  have R6 := Lib.hid ha; have K6 : Hid (Below w3.heap.size w3 w6) := Lib.hid (hk _ _ K5.out (Nat.le_refl _))
  have S6 : Hid (Sl w6 (.slice a3 116 c3) B1) := Lib.hid (S3.out.below K6.out)
  clear ha hz ho hk
  refine ⟨K6.out, ?_⟩
  (simp only [Act.put, List.setIfInBounds_toArray, List.set_cons_zero, List.set_cons_succ])
  refine plan_nil ?_
  have e6 : (laidL (List.replicate 256 0) 116 (nbytes q 4)).length = 256 := by rw [laidL_length _ _ _ (by rw [HN4.out, List.length_replicate]; decide), List.length_replicate]
  have E6 := Lib.hid e6
  clear e6
  go_wp2_with (refine wpList_copy_sl (by rfl) _ _ (by rfl) w3.heap.size 0 256 256 (.slice a3 116 c3) B1 (by rfl) (by rfl) S6.out 116 (by rw [HLEN.out]; rfl) _ 5 R6.out (by rw [List.size_toArray, u8s_length, E6.out]; decide) (u8s (layH h)).toArray (by rw [List.take_of_length_le (by rw [HLEN.out]; exact Nat.le_refl _), splice_laid, HLAY.out]) ?_; intro w7 ha7 hs7 ho7 hk7; have A7 := Lib.hid ha7; have B7 : Hid (Below w3.heap.size w3 w7) := Lib.hid (hk7 _ _ K6.out (Nat.le_refl _)); clear ha7 hs7 ho7 hk7)
  go_ret2
  exact ⟨w3.heap.size, by rw [LL.out]; rfl, A7.out, Nat.le_trans HB.out.size B3.out.size, HB.out.trans ((B3.out.trans (B7.out.mono B3.out.size)).mono HB.out.size)⟩
set_option maxRecDepth 100000 in
set_option maxHeartbeats 8000000 in
theorem play11_one (h : HdV) (hw : h.Wf) (hm : mayH h = true) (hver : h.ver = 1) (w : World) : Calls Try.prog 8 #[.agg (hdC h)] w (TwoOwn w (layH h) 0) := by
  have hmay := fun wx => pmay11_any h hw wx
  rw [hm] at hmay
  have hsh := fun wx => pshared11_any h hw hm wx
  have hl := ((mayH_iff h).1 hm).2.2.2.2.2.2
  have hlen := hdB1_length hw hl
  obtain ⟨i8, hi8, hz8, hs8, hb8⟩ := info_parts infoU8
  obtain ⟨B1, hB1⟩ : ∃ B, B = hdB1 h := ⟨_, rfl⟩
  have hlay : laidL (List.replicate 256 0) 0 B1 = layH h := by
    unfold layH hdB2
    rw [if_neg (by rw [hver]; decide), ← hB1, laid_one B1 (by rw [hB1]; exact hlen)]
  have hlen2 : (layH h).length = 256 := layH_length hw hl
  rw [← hB1] at hsh hlen
  have su : ∀ v wx, Sl wx v B1 → Calls Try.prog 17 #[v] wx fun e w' => e = .returned (.int .u32 ((sumN B1 : Nat) : Int)) ∧ wx = w' := fun v wx hs => psum11_any B1 v wx (by rw [hlen]; decide) hs
  have nu : ∀ wx, Calls Try.prog 22 #[.slice none 0 0, .int .u64 ((sumN B1 : Nat) : Int), .int .i64 4] wx (SEnd wx (nbytes (sumN B1) 4)) := fun wx => num4_any [] (sumN B1) (.slice none 0 0) wx (sl_none _) (by decide) (Nat.lt_trans (sumN_lt _) (by decide))
  have cvs := fun wx => conv_uu (sumN B1) (sumN_lt _) wx
  have hn4 : (nbytes (sumN B1) 4).length = 4 := nbytes_length _ _
  obtain ⟨q, hq⟩ : ∃ q, q = sumN B1 := ⟨_, rfl⟩
  rw [← hq] at su nu cvs hn4
  try rw [← hq] at hlay
  obtain ⟨M, hM⟩ : ∃ M, M = hdC h := ⟨_, rfl⟩
  have ms : M.size = 84 := by rw [hM]; exact hdC_size hw
  have cv := hd_ver h
  rw [hver, ← hM] at cv
  rw [← hM] at hmay hsh ⊢
  have hA := at_new w M 35
  have hb : Below w.heap.size w (w.alloc (.cells M 35)) := (Below.refl _ _).alloc (Nat.le_refl _) _
  obtain ⟨w1, hw1⟩ : ∃ w1, w1 = w.alloc (.cells M 35) := ⟨_, rfl⟩
  rw [← hw1] at hA hb
  have MAY := Lib.hid hmay; have SH := Lib.hid hsh; have AX := Lib.hid hA; have HB := Lib.hid hb; have MS := Lib.hid ms; have SU := Lib.hid su; have NU := Lib.hid nu; have CVS := Lib.hid cvs; have HLEN := Lib.hid hlen; have HLAY := Lib.hid hlay; have LL := Lib.hid hlen2; have CV := Lib.hid cv; have HN4 := Lib.hid hn4
  have I8 := Lib.hid hi8; have Z8 := Lib.hid hz8; have S8 := Lib.hid hs8; have B8' := Lib.hid hb8
  clear hmay hsh hA hb ms su nu cvs hlen hlay hlen2 cv hn4 hi8 hz8 hs8 hb8 hM hq hB1 hl hver hm hw
  go_enter Try.func8, Try.ntmps8
  go_upto_region 1 with fail
  rw [← hw1]
  clear hw1
  go_wp2_with (refine wpList_load_all (by rfl) 35 _ (by rfl) w.heap.size (by rfl) _ Try.underlying35 (by rfl) M _ AX.out (by rw [MS.out]; exact infoHdP) ?_)
  refine (MAY.out w1).mono ?_
  rintro e w2 ⟨rfl, hb2⟩
  have B2 := Lib.hid hb2
  have A2 := Lib.hid (AX.out.below hb2 AX.out.lt)
  clear hb2 MAY
  go_wp2_with (refine wpList_load_all (by rfl) 35 _ (by rfl) w.heap.size (by rfl) _ Try.underlying35 (by rfl) M _ A2.out (by rw [MS.out]; exact infoHdP) ?_)
  refine (SH.out w2).mono ?_
  rintro e w3 ⟨v3, rfl, hs3, hb3⟩
  obtain ⟨a3, c3, rfl⟩ := sl_hdw hs3
  rw [HLEN.out] at hs3 ⊢
  have S3 := Lib.hid hs3
  have B3 : Hid (Below w1.heap.size w1 w3) := Lib.hid (B2.out.trans (hb3.mono B2.out.size))
  clear hs3 hb3 SH A2 B2
  go_wp2_with (first
    | (refine wpList_make_full _ (by rfl) _ _ 28 (by rfl) w3.heap.size 5 i8 (.int .u8 0) 1 Try.underlying28 I8.out Z8.out S8.out .i64 .i64 256 256 256 (by rfl) (by rfl) (by rfl) (by rfl) (by rw [B8'.out]; decide) (by decide) (Nat.le_refl _) ?_; intro w4 ho4 hg4; have R4 : Hid (At w4 w3.heap.size (u8s (List.replicate 256 0)).toArray 5) := (by have h := own_full ho4; rw [made_zeros] at h; exact h); have K4 : Hid (Below w3.heap.size w3 w4) := Lib.hid ((Below.refl _ _).grown hg4 (Nat.le_refl _) (fun _ h => by cases h)); have c4 : w4.cell? ⟨w.heap.size, 0, none⟩ = some (.int .i64 1) := ((AX.out.below (B3.out.trans (K4.out.mono B3.out.size)) AX.out.lt).cell 0).trans CV.out; clear ho4 hg4)
    | (refine wpList_copy_sl (by rfl) _ _ (by rfl) w3.heap.size 0 256 256 (.slice a3 116 c3) B1 (by rfl) (by rfl) (S3.out.below K4.out) 116 (by rw [HLEN.out]; rfl) _ 5 R4.out (by rw [List.size_toArray, u8s_length, List.length_replicate]; decide) (u8s (layH h)).toArray (by rw [List.take_of_length_le (by rw [HLEN.out]; exact Nat.le_refl _), splice_laid, HLAY.out]) ?_; intro w7 ha7 hs7 ho7 hk7; have A7 := Lib.hid ha7; have B7 : Hid (Below w3.heap.size w3 w7) := Lib.hid (hk7 _ _ K4.out (Nat.le_refl _)); clear ha7 hs7 ho7 hk7))
  go_ret2
  exact ⟨w3.heap.size, by rw [LL.out]; rfl, A7.out, Nat.le_trans HB.out.size B3.out.size, HB.out.trans ((B3.out.trans (B7.out.mono B3.out.size)).mono HB.out.size)⟩
set_option maxRecDepth 100000 in
set_option maxHeartbeats 2000000 in
theorem play11_bad (h : HdV) (hw : h.Wf) (hm : mayH h = false) (w : World) : Calls Try.prog 8 #[.agg (hdC h)] w fun e w' => e = .returned (.tuple #[.slice none 0 0, .int .i64 1]) ∧ Below w.heap.size w w' := by
  have hmay := fun wx => pmay11_any h hw wx
  rw [hm] at hmay
  obtain ⟨M, hM⟩ : ∃ M, M = hdC h := ⟨_, rfl⟩
  have ms : M.size = 84 := by rw [hM]; exact hdC_size hw
  rw [← hM] at hmay ⊢
  have hA := at_new w M 35
  have hb : Below w.heap.size w (w.alloc (.cells M 35)) := (Below.refl _ _).alloc (Nat.le_refl _) _
  obtain ⟨w1, hw1⟩ : ∃ w1, w1 = w.alloc (.cells M 35) := ⟨_, rfl⟩
  rw [← hw1] at hA hb
  have MAY := Lib.hid hmay; have AX := Lib.hid hA; have HB := Lib.hid hb; have MS := Lib.hid ms
  clear hmay hA hb ms hM hm hw
  go_enter Try.func8, Try.ntmps8
  go_upto_region 1 with fail
  rw [← hw1]
  clear hw1
  go_wp2_with (refine wpList_load_all (by rfl) 35 _ (by rfl) w.heap.size (by rfl) _ Try.underlying35 (by rfl) M _ AX.out (by rw [MS.out]; exact infoHdP) ?_)
  refine (MAY.out w1).mono ?_
  rintro e w2 ⟨rfl, hb2⟩
  have B2 : Hid (Below w.heap.size w w2) := Lib.hid (HB.out.trans (hb2.mono HB.out.size))
  clear hb2 MAY
  go_wp2_with fail
  go_ret2
  exact ⟨rfl, B2.out⟩
theorem play11_good (h : HdV) (hw : h.Wf) (hm : mayH h = true) (w : World) : Calls Try.prog 8 #[.agg (hdC h)] w (TwoOwn w (layH h) 0) := by
  obtain ⟨hv0, hv1, _⟩ := (mayH_iff h).1 hm
  by_cases hv : h.ver = 2
  · exact play11_two h hw hm hv w
  · exact play11_one h hw hm (by omega) w
end Sha
end Go.Proofs.Ytbnjihpafipbnaa
namespace Go.Proofs.Ytbnjihpafipbnaa
namespace Sha
open Go.RowKit Mem
set_option maxRecDepth 100000 in
set_option maxHeartbeats 1000000 in
theorem bEqual_any (l m : List (BitVec 8)) (v u : Value) (w : World) (h1 : Sl w v l) (h2 : Sl w u m) :
    Calls Try.prog 32 #[v, u] w fun e w' => e = .returned (.bool (decide (l = m))) ∧ w = w' := by
  obtain ⟨a1, c1, e1, _⟩ := id h1
  obtain ⟨a2, c2, e2, _⟩ := id h2
  subst e1 e2
  have k1 := conv_slA h1
  have k2 := conv_slA h2
  have hs := str_inj l m
  obtain ⟨S1, hS1⟩ : ∃ S1, S1 = strOfNums (i8s l) := ⟨_, rfl⟩
  obtain ⟨S2, hS2⟩ : ∃ S2, S2 = strOfNums (i8s m) := ⟨_, rfl⟩
  rw [← hS1] at k1 hs
  rw [← hS2] at k2 hs
  obtain ⟨n1, hn1⟩ : ∃ n, n = l.length := ⟨_, rfl⟩
  obtain ⟨n2, hn2⟩ : ∃ n, n = m.length := ⟨_, rfl⟩
  rw [← hn1] at k1 ⊢
  rw [← hn2] at k2 ⊢
  have HS := Lib.hid hs
  clear h1 h2 hs hS1 hS2 hn1 hn2
  go_enter Try.func32, Try.ntmps32
  go_wp2
  go_ret
  exact ⟨by rw [← HS.out]; rfl, rfl⟩
end Sha
end Go.Proofs.Ytbnjihpafipbnaa
namespace Go.Proofs.Ytbnjihpafipbnaa
namespace Sha
open Go.RowKit Mem
set_option maxRecDepth 100000 in
set_option maxHeartbeats 4000000 in
theorem pparse11_len (b : List (BitVec 8)) (v : Value) (w : World) (hv : Sl w v b) (_hl : b.length ≤ 1000) (h : b.length ≠ 256) :
    Calls Try.prog 19 #[v] w fun e w' => e = .returned (.tuple #[.agg (hdC zhd), .int .i64 1]) ∧ Below w.heap.size w w' := by
  obtain ⟨a0, cap, rfl, hcap, hr⟩ := hv
  obtain ⟨n, hn⟩ : ∃ n, n = b.length := ⟨_, rfl⟩
  rw [← hn] at h _hl ⊢
  obtain ⟨Z, hZ⟩ : ∃ Z, Z = hdC zhd := ⟨_, rfl⟩
  have zs : Z.size = 84 := by rw [hZ]; exact hdC_size zhd_wf
  have zo : Z.all (·.oneCell') = true := by rw [hZ]; exact hdC_one _
  have hx : ∀ w, (zeroValue 35).run Try.prog w = .ok (.agg Z) w := by rw [hZ]; exact zeroHdP
  have bn : ∀ w, (Instr.build 35 #[]).run Try.prog w = .ok (.agg Z) w := by rw [hZ]; exact buildHP0
  rw [← hZ]
  have az := at_new w Z 35
  have bz : Below w.heap.size w (w.alloc (.cells Z 35)) := (Below.refl _ _).alloc (Nat.le_refl _) _
  have w1s : w.heap.size < (w.alloc (.cells Z 35)).heap.size := by simp
  have ZS := Lib.hid zs; have ZO := Lib.hid zo; have BN := Lib.hid bn; have AZ := Lib.hid az; have BZ := Lib.hid bz
  have g : ¬ (n : Int) = 256 := by omega
  clear zs zo bn az bz hZ hr hn h hcap w1s
  go_enter Try.func19, Try.ntmps19
  go_upto_region 1 with fail
  clear hx
  generalize w.alloc (.cells Z 35) = w1 at *
  go_wp2_with (first
    | (refine Mem.wpList_build (by rfl) 35 _ #[] (.agg Z) (by rfl) (by simp) BN.out ?_)
    | (refine wpList_store_all (by rfl) 35 _ _ (by rfl) (by rfl) w.heap.size Z (by rfl) (by rfl) (by rw [ZS.out]; exact infoHdP) Z 35 AZ.out (by rfl) ZO.out ?_))
  try simp only [Exit.inBlock, Exit.then]
  refine ret_row_tmp (by rfl) w.heap.size 35 Z _ _ (by rfl) (by rfl) (AZ.out.row Z) Try.underlying35 (by rfl) (by rw [ZS.out]; exact infoHdP) ?_
  exact ⟨rfl, below_row BZ.out (Nat.le_refl _) Z⟩
set_option maxRecDepth 100000 in
set_option maxHeartbeats 4000000 in
theorem pparse11_magic (b : List (BitVec 8)) (v : Value) (w : World) (hv : Sl w v b) (hl : b.length = 256) (h4 : b.take 4 ≠ carl) :
    Calls Try.prog 19 #[v] w fun e w' => e = .returned (.tuple #[.agg (hdC zhd), .int .i64 3]) ∧ Below w.heap.size w w' := by
  obtain ⟨a0, cap, rfl⟩ := sl_hdw hv
  obtain ⟨Z, hZ⟩ : ∃ Z, Z = hdC zhd := ⟨_, rfl⟩
  have zs : Z.size = 84 := by rw [hZ]; exact hdC_size zhd_wf
  have zo : Z.all (·.oneCell') = true := by rw [hZ]; exact hdC_one _
  have hx : ∀ w, (zeroValue 35).run Try.prog w = .ok (.agg Z) w := by rw [hZ]; exact zeroHdP
  have bn : ∀ w, (Instr.build 35 #[]).run Try.prog w = .ok (.agg Z) w := by rw [hZ]; exact buildHP0
  have az := at_new w Z 35
  have bz : Below w.heap.size w (w.alloc (.cells Z 35)) := (Below.refl _ _).alloc (Nat.le_refl _) _
  have w1s : w.heap.size < (w.alloc (.cells Z 35)).heap.size := by simp
  have sl1 := hv.below bz
  have hrd := fun wx (h : Sl wx (.slice a0 b.length cap) b) => read_any b _ wx h (by omega)
  rw [hl] at sl1 hrd ⊢
  obtain ⟨t1, t2⟩ := take_head b hl
  have hb4 := fun (br : Nat) wx (h : RPk wx br b 0) => pbytes_any b 0 4 br wx h (by omega) (by decide) (by decide)
  rw [show (4 : Int).toNat = 4 by rfl, t1] at hb4
  obtain ⟨S4, hS4⟩ : ∃ S, S = strOfNums (i8s (b.take 4)) := ⟨_, rfl⟩
  have l4 : (b.take 4).length = 4 := by rw [List.length_take]; omega
  have cv4 : ∀ wx (a : Option Addr) (c : Nat), Sl wx (.slice a 4 c) (b.take 4) → (convert 28 9 (.slice a 4 c)).run Try.prog wx = .ok (.string S4) wx := fun wx a c hs => by
    have h := conv_slA (w := wx) (a := a) (c := c) (l := b.take 4) (by rw [l4]; exact hs)
    rw [l4] at h; rw [hS4]; exact h
  have ne4 := fun x y wx => neq_str (b.take 4) carl x y wx
  rw [← hS4, ← carl_str] at ne4
  rw [decide_eq_false h4, Bool.not_false] at ne4
  rw [← hZ]
  have ZS := Lib.hid zs; have ZO := Lib.hid zo; have BN := Lib.hid bn; have AZ := Lib.hid az; have BZ := Lib.hid bz; have W1S := Lib.hid w1s; have SL1 := Lib.hid sl1; have RD := Lib.hid hrd; have HB4 := Lib.hid hb4; have CV4 := Lib.hid cv4; have L4 := Lib.hid l4
  have NE := Lib.hid ne4
  clear zs zo bn az bz w1s sl1 hrd hb4 cv4 ne4 hS4 l4 t1 t2 hZ hv hl h4
  go_enter Try.func19, Try.ntmps19
  go_upto_region 1 with fail
  clear hx
  generalize w.alloc (.cells Z 35) = w1 at *
  go_wp2_with fail
  refine (RD.out _ SL1.out).mono ?_
  rintro e w2 ⟨br, rfl, hbr, hrp, hb⟩
  have BR := Lib.hid hbr; have RP := Lib.hid hrp; have B2 := Lib.hid hb
  clear hbr hrp hb RD
  go_wp2_with fail
  refine (HB4.out br _ RP.out).mono ?_
  rintro e w3 ⟨v4, rfl, hs4, hp⟩
  obtain ⟨a4, c4, rfl⟩ := sl_hdw hs4
  rw [L4.out] at hs4 ⊢
  have S4S := Lib.hid hs4; have RP3 := Lib.hid hp.r; have B3 : Hid (Below w1.heap.size w1 w3) := Lib.hid (hp.k _ _ B2.out BR.out)
  clear hs4 hp HB4 RP B2
  have A3 := Lib.hid (AZ.out.below B3.out W1S.out)
  go_wp2_with (first
    | (refine wpList_conv_at (by rfl) _ _ _ _ (.string S4) (by rfl) (by rfl) (CV4.out _ _ _ S4S.out) ?_)
    | (refine wpList_bin (by rfl) .neq _ _ _ _ _ _ (.bool true) (by rfl) (by rfl) (by rfl) (fun wx => NE.out _ _ wx) ?_)
    | (refine Mem.wpList_build (by rfl) 35 _ #[] (.agg Z) (by rfl) (by simp) BN.out ?_)
    | (refine wpList_store_all (by rfl) 35 _ _ (by rfl) (by rfl) w.heap.size Z (by rfl) (by rfl) (by rw [ZS.out]; exact infoHdP) Z 35 A3.out (by rfl) ZO.out ?_))
  try simp only [Exit.inBlock, Exit.then]
  refine ret_row_tmp (by rfl) w.heap.size 35 Z _ _ (by rfl) (by rfl) (A3.out.row Z) Try.underlying35 (by rfl) (by rw [ZS.out]; exact infoHdP) ?_
  exact ⟨rfl, below_row (BZ.out.trans (B3.out.mono BZ.out.size)) (Nat.le_refl _) Z⟩
set_option maxRecDepth 100000 in
set_option maxHeartbeats 4000000 in
theorem pparse11_kind (b : List (BitVec 8)) (v : Value) (w : World) (hv : Sl w v b) (hl : b.length = 256) (h4 : b.take 4 = carl) (h12 : b.getD 4 0 ≠ 1 ∧ b.getD 4 0 ≠ 2) :
    Calls Try.prog 19 #[v] w fun e w' => e = .returned (.tuple #[.agg (hdC zhd), .int .i64 21]) ∧ Below w.heap.size w w' := by
  obtain ⟨a0, cap, rfl⟩ := sl_hdw hv
  obtain ⟨Z, hZ⟩ : ∃ Z, Z = hdC zhd := ⟨_, rfl⟩
  have zs : Z.size = 84 := by rw [hZ]; exact hdC_size zhd_wf
  have zo : Z.all (·.oneCell') = true := by rw [hZ]; exact hdC_one _
  have hx : ∀ w, (zeroValue 35).run Try.prog w = .ok (.agg Z) w := by rw [hZ]; exact zeroHdP
  have bn : ∀ w, (Instr.build 35 #[]).run Try.prog w = .ok (.agg Z) w := by rw [hZ]; exact buildHP0
  have az := at_new w Z 35
  have bz : Below w.heap.size w (w.alloc (.cells Z 35)) := (Below.refl _ _).alloc (Nat.le_refl _) _
  have w1s : w.heap.size < (w.alloc (.cells Z 35)).heap.size := by simp
  have sl1 := hv.below bz
  have hrd := fun wx (h : Sl wx (.slice a0 b.length cap) b) => read_any b _ wx h (by omega)
  rw [hl] at sl1 hrd ⊢
  obtain ⟨t1, t2⟩ := take_head b hl
  have hb4 := fun (br : Nat) wx (h : RPk wx br b 0) => pbytes_any b 0 4 br wx h (by omega) (by decide) (by decide)
  rw [show (4 : Int).toNat = 4 by rfl, t1] at hb4
  obtain ⟨S4, hS4⟩ : ∃ S, S = strOfNums (i8s (b.take 4)) := ⟨_, rfl⟩
  have l4 : (b.take 4).length = 4 := by rw [List.length_take]; omega
  have cv4 : ∀ wx (a : Option Addr) (c : Nat), Sl wx (.slice a 4 c) (b.take 4) → (convert 28 9 (.slice a 4 c)).run Try.prog wx = .ok (.string S4) wx := fun wx a c hs => by
    have h := conv_slA (w := wx) (a := a) (c := c) (l := b.take 4) (by rw [l4]; exact hs)
    rw [l4] at h; rw [hS4]; exact h
  have ne4 := fun x y wx => neq_str (b.take 4) carl x y wx
  rw [← hS4, ← carl_str] at ne4
  rw [decide_eq_true h4, Bool.not_true] at ne4
  have hn1 : ∀ (br : Nat) wx, RPk wx br (b.drop 4) 0 → Calls Try.prog 30 #[rp br, .int .i64 1, .int .u64 (255 : Int)] wx fun o w' => o = .returned (.int .u64 (((b.getD 4 0).toNat : Nat) : Int)) ∧ PkEnd RPk wx br (b.drop 5) 0 w' := fun br wx h => by
    have h1 := pnumget_any (b.drop 4) 0 1 255 br wx h (by rw [List.length_drop]; omega) (by decide)
    rw [show cutN 1 1 8 = 1 by decide, t2] at h1
    exact h1
  obtain ⟨x, hx4⟩ : ∃ x, x = (b.getD 4 0).toNat := ⟨_, rfl⟩
  have x8 : x < 256 := by rw [hx4]; exact (b.getD 4 0).isLt
  rw [← hx4] at hn1
  have cvx := fun wx => conv_ui x (by omega) wx
  have hve := fun wx => hversion_any (x : Int) wx
  have hno : ¬ (1 ≤ (x : Int) ∧ (x : Int) ≤ 2) := fun h => by
    have hor : x = 1 ∨ x = 2 := by omega
    rcases hor with e | e
    · exact h12.1 (by apply BitVec.eq_of_toNat_eq; rw [← hx4, e]; rfl)
    · exact h12.2 (by apply BitVec.eq_of_toNat_eq; rw [← hx4, e]; rfl)
  rw [decide_eq_false hno] at hve
  rw [← hZ]
  have ZS := Lib.hid zs; have ZO := Lib.hid zo; have BN := Lib.hid bn; have AZ := Lib.hid az; have BZ := Lib.hid bz; have W1S := Lib.hid w1s; have SL1 := Lib.hid sl1; have RD := Lib.hid hrd; have HB4 := Lib.hid hb4; have CV4 := Lib.hid cv4; have L4 := Lib.hid l4
  have NE := Lib.hid ne4; have HN1 := Lib.hid hn1; have CVX := Lib.hid cvx; have VE := Lib.hid hve
  clear zs zo bn az bz w1s sl1 hrd hb4 cv4 ne4 hS4 l4 t1 t2 hZ hv hl h4 h12 hn1 cvx hve hno hx4 x8
  go_enter Try.func19, Try.ntmps19
  go_upto_region 1 with fail
  clear hx
  generalize w.alloc (.cells Z 35) = w1 at *
  go_wp2_with fail
  refine (RD.out _ SL1.out).mono ?_
  rintro e w2 ⟨br, rfl, hbr, hrp, hb⟩
  have BR := Lib.hid hbr; have RP := Lib.hid hrp; have B2 := Lib.hid hb
  clear hbr hrp hb RD
  go_wp2_with fail
  refine (HB4.out br _ RP.out).mono ?_
  rintro e w3 ⟨v4, rfl, hs4, hp⟩
  obtain ⟨a4, c4, rfl⟩ := sl_hdw hs4
  rw [L4.out] at hs4 ⊢
  have S4S := Lib.hid hs4; have RP3 := Lib.hid hp.r; have B3 : Hid (Below w1.heap.size w1 w3) := Lib.hid (hp.k _ _ B2.out BR.out)
  clear hs4 hp HB4 RP B2
  go_wp2_with (first
    | (refine wpList_conv_at (by rfl) _ _ _ _ (.string S4) (by rfl) (by rfl) (CV4.out _ _ _ S4S.out) ?_)
    | (refine wpList_bin (by rfl) .neq _ _ _ _ _ _ (.bool false) (by rfl) (by rfl) (by rfl) (fun wx => NE.out _ _ wx) ?_))
  refine (HN1.out br _ RP3.out).mono ?_
  rintro e w4 ⟨rfl, hp⟩
  have RP4 := Lib.hid hp.r; have B4 : Hid (Below w1.heap.size w1 w4) := Lib.hid (hp.k _ _ B3.out BR.out)
  clear hp HN1 RP3 B3 S4S
  go_wp2_with (refine wpList_conv (by rfl) _ _ _ _ (.int .i64 (x : Int)) (by rfl) (by rfl) CVX.out ?_)
  refine (VE.out _).mono ?_
  rintro e w' ⟨rfl, rfl⟩
  have A4 := Lib.hid (AZ.out.below B4.out W1S.out)
  go_wp2_with (first
    | (refine Mem.wpList_build (by rfl) 35 _ #[] (.agg Z) (by rfl) (by simp) BN.out ?_)
    | (refine wpList_store_all (by rfl) 35 _ _ (by rfl) (by rfl) w.heap.size Z (by rfl) (by rfl) (by rw [ZS.out]; exact infoHdP) Z 35 A4.out (by rfl) ZO.out ?_))
  try simp only [Exit.inBlock, Exit.then]
  refine ret_row_tmp (by rfl) w.heap.size 35 Z _ _ (by rfl) (by rfl) (A4.out.row Z) Try.underlying35 (by rfl) (by rw [ZS.out]; exact infoHdP) ?_
  exact ⟨rfl, below_row (BZ.out.trans (B4.out.mono BZ.out.size)) (Nat.le_refl _) Z⟩
set_option maxRecDepth 100000 in
set_option maxHeartbeats 8000000 in
theorem pparse11_late (b : List (BitVec 8)) (v : Value) (w : World) (hv : Sl w v b) (hl : b.length = 256) (h4 : b.take 4 = carl) (h12 : ¬ (b.getD 4 0 ≠ 1 ∧ b.getD 4 0 ≠ 2)) :
    Calls Try.prog 19 #[v] w fun e w' => e = .returned (.tuple #[.agg (hdC (parseH b).1), .int .i64 ((parseH b).2 : Int)]) ∧ Below w.heap.size w w' := by
  have hpar := parse_take b hl h4 h12
  obtain ⟨a0, cap, rfl⟩ := sl_hdw hv
  obtain ⟨Z, hZ⟩ : ∃ Z, Z = hdC zhd := ⟨_, rfl⟩
  have zs : Z.size = 84 := by rw [hZ]; exact hdC_size zhd_wf
  have zo : Z.all (·.oneCell') = true := by rw [hZ]; exact hdC_one _
  have hx : ∀ w, (zeroValue 35).run Try.prog w = .ok (.agg Z) w := by rw [hZ]; exact zeroHdP
  have bn : ∀ w, (Instr.build 35 #[]).run Try.prog w = .ok (.agg Z) w := by rw [hZ]; exact buildHP0
  have az := at_new w Z 35
  have bz : Below w.heap.size w (w.alloc (.cells Z 35)) := (Below.refl _ _).alloc (Nat.le_refl _) _
  have w1s : w.heap.size < (w.alloc (.cells Z 35)).heap.size := by simp
  have sl1 := hv.below bz
  have hrd := fun wx (h : Sl wx (.slice a0 b.length cap) b) => read_any b _ wx h (by omega)
  rw [hl] at sl1 hrd ⊢
  obtain ⟨t1, t2⟩ := take_head b hl
  have hb4 := fun (br : Nat) wx (h : RPk wx br b 0) => pbytes_any b 0 4 br wx h (by omega) (by decide) (by decide)
  rw [show (4 : Int).toNat = 4 by rfl, t1] at hb4
  obtain ⟨S4, hS4⟩ : ∃ S, S = strOfNums (i8s (b.take 4)) := ⟨_, rfl⟩
  have l4 : (b.take 4).length = 4 := by rw [List.length_take]; omega
  have cv4 : ∀ wx (a : Option Addr) (c : Nat), Sl wx (.slice a 4 c) (b.take 4) → (convert 28 9 (.slice a 4 c)).run Try.prog wx = .ok (.string S4) wx := fun wx a c hs => by
    have h := conv_slA (w := wx) (a := a) (c := c) (l := b.take 4) (by rw [l4]; exact hs)
    rw [l4] at h; rw [hS4]; exact h
  have ne4 := fun x y wx => neq_str (b.take 4) carl x y wx
  rw [← hS4, ← carl_str] at ne4
  rw [decide_eq_true h4, Bool.not_true] at ne4
  have hn1 : ∀ (br : Nat) wx, RPk wx br (b.drop 4) 0 → Calls Try.prog 30 #[rp br, .int .i64 1, .int .u64 (255 : Int)] wx fun o w' => o = .returned (.int .u64 (((b.getD 4 0).toNat : Nat) : Int)) ∧ PkEnd RPk wx br (b.drop 5) 0 w' := fun br wx h => by
    have h1 := pnumget_any (b.drop 4) 0 1 255 br wx h (by rw [List.length_drop]; omega) (by decide)
    rw [show cutN 1 1 8 = 1 by decide, t2] at h1
    exact h1
  obtain ⟨x, hx4⟩ : ∃ x, x = (b.getD 4 0).toNat := ⟨_, rfl⟩
  have x8 : x < 256 := by rw [hx4]; exact (b.getD 4 0).isLt
  rw [← hx4] at hn1
  have cvx := fun wx => conv_ui x (by omega) wx
  have hve := fun wx => hversion_any (x : Int) wx
  have hyes : 1 ≤ (x : Int) ∧ (x : Int) ≤ 2 := by
    by_cases e1 : b.getD 4 0 = 1
    · have : x = 1 := by rw [hx4, e1]; rfl
      omega
    · by_cases e2 : b.getD 4 0 = 2
      · have : x = 2 := by rw [hx4, e2]; rfl
        omega
      · exact absurd ⟨e1, e2⟩ h12
  rw [decide_eq_true hyes] at hve
  have hwf := takeH_wf (x : Int) (b.drop 5) (by omega) (by omega) (by rw [List.length_drop]; omega)
  have htk := fun (br : Nat) wx (h : RPk wx br (b.drop 5) 0) => ptakeS_any (x : Int) (by omega) (by omega) (b.drop 5) br wx h (by rw [List.length_drop]; omega)
  rw [← hx4] at hpar
  obtain ⟨H, hH⟩ : ∃ H, H = (takeH (x : Int) (b.drop 5)).1 := ⟨_, rfl⟩
  rw [← hH] at hpar hwf htk
  have hgood := fun hm wx => play11_good H hwf hm wx
  have hbad := fun hm wx => play11_bad H hwf hm wx
  have hllen := fun (hm : mayH H = true) => layH_length hwf (((mayH_iff H).1 hm).2.2.2.2.2.2)
  have heq := fun wx (u : Value) (l : List (BitVec 8)) (h1 : Sl wx u l) (h2 : Sl wx (.slice a0 256 cap) b) => bEqual_any l b u _ wx h1 h2
  obtain ⟨F, hF⟩ : ∃ F, F = hdC H := ⟨_, rfl⟩
  have fs : F.size = 84 := by rw [hF]; exact hdC_size hwf
  have fo : F.all (·.oneCell') = true := by rw [hF]; exact hdC_one _
  rw [← hF] at htk hgood hbad
  have ZS := Lib.hid zs; have ZO := Lib.hid zo; have BN := Lib.hid bn; have AZ := Lib.hid az; have BZ := Lib.hid bz; have W1S := Lib.hid w1s; have SL1 := Lib.hid sl1; have RD := Lib.hid hrd; have HB4 := Lib.hid hb4; have CV4 := Lib.hid cv4; have L4 := Lib.hid l4
  have NE := Lib.hid ne4; have HN1 := Lib.hid hn1; have CVX := Lib.hid cvx; have VE := Lib.hid hve; have TK := Lib.hid htk; have GOOD := Lib.hid hgood; have BAD := Lib.hid hbad; have LLEN := Lib.hid hllen; have EQ := Lib.hid heq; have FS := Lib.hid fs; have FO := Lib.hid fo; have PAR := Lib.hid hpar; have HF := Lib.hid hF; have HZ := Lib.hid hZ
  clear zs zo bn az bz w1s sl1 hrd hb4 cv4 ne4 hS4 l4 t1 t2 hZ hv hl h4 h12 hn1 cvx hve hyes hx4 x8 htk hgood hbad hllen heq fs fo hpar hF hwf hH
  go_enter Try.func19, Try.ntmps19
  go_upto_region 1 with fail
  have HX := Lib.hid hx
  clear hx
  generalize w.alloc (.cells Z 35) = w1 at *
  go_wp2_with fail
  refine (RD.out _ SL1.out).mono ?_
  rintro e w2 ⟨br, rfl, hbr, hrp, hb⟩
  have BR := Lib.hid hbr; have RP := Lib.hid hrp; have B2 := Lib.hid hb
  clear hbr hrp hb RD
  go_wp2_with fail
  refine (HB4.out br _ RP.out).mono ?_
  rintro e w3 ⟨v4, rfl, hs4, hp⟩
  obtain ⟨a4, c4, rfl⟩ := sl_hdw hs4
  rw [L4.out] at hs4 ⊢
  have S4S := Lib.hid hs4; have RP3 := Lib.hid hp.r; have B3 : Hid (Below w1.heap.size w1 w3) := Lib.hid (hp.k _ _ B2.out BR.out)
  clear hs4 hp HB4 RP B2
  go_wp2_with (first
    | (refine wpList_conv_at (by rfl) _ _ _ _ (.string S4) (by rfl) (by rfl) (CV4.out _ _ _ S4S.out) ?_)
    | (refine wpList_bin (by rfl) .neq _ _ _ _ _ _ (.bool false) (by rfl) (by rfl) (by rfl) (fun wx => NE.out _ _ wx) ?_))
  refine (HN1.out br _ RP3.out).mono ?_
  rintro e w4 ⟨rfl, hp⟩
  have RP4 := Lib.hid hp.r; have B4 : Hid (Below w1.heap.size w1 w4) := Lib.hid (hp.k _ _ B3.out BR.out)
  clear hp HN1 RP3 B3 S4S
  go_wp2_with (refine wpList_conv (by rfl) _ _ _ _ (.int .i64 (x : Int)) (by rfl) (by rfl) CVX.out ?_)
  refine (VE.out _).mono ?_
  rintro e w' ⟨rfl, rfl⟩
  go_wp2_with fail
  refine (TK.out br _ RP4.out).mono ?_
  rintro e w5 ⟨rfl, hp⟩
  have B5 : Hid (Below w1.heap.size w1 w5) := Lib.hid (hp.k _ _ B4.out BR.out)
  have A6 := Lib.hid (at_new w5 F 35)
  have B6 : Hid (Below w1.heap.size w1 (w5.alloc (.cells F 35))) := Lib.hid (B5.out.alloc B5.out.size _)
  have hx := HX.out
  clear hp TK RP4 B4
  go_upto_region 10 with (refine wpList_store_new (by rfl) 35 _ _ (by rfl) (by rfl) F _ _ (by rfl) (by rfl) (by rw [FS.out]; exact infoHdP) (by rw [FS.out, ZS.out]) FO.out ?_)
  clear hx HX
  obtain ⟨g, hg⟩ : ∃ g, g = w5.heap.size := ⟨_, rfl⟩
  rw [← hg] at A6 ⊢
  generalize w5.alloc (.cells F 35) = w6 at *
  clear hg
  go_wp2_with (refine wpList_load_all (by rfl) 35 _ (by rfl) g (by rfl) _ Try.underlying35 (by rfl) F _ A6.out (by rw [FS.out]; exact infoHdP) ?_)
  cases hm : mayH H with
  | false =>
    refine (BAD.out hm w6).mono ?_
    rintro e w7 ⟨rfl, hb⟩
    have B7 : Hid (Below w1.heap.size w1 w7) := Lib.hid (B6.out.trans (hb.mono B6.out.size))
    have A7 := Lib.hid (AZ.out.below B7.out W1S.out)
    have hp := PAR.out
    rw [if_neg (by rw [hm]; simp)] at hp
    have HP := Lib.hid hp
    clear hb hp hm BAD GOOD
    go_wp2_with (first
      | (refine Mem.wpList_build (by rfl) 35 _ #[] (.agg Z) (by rfl) (by simp) BN.out ?_)
      | (refine wpList_store_all (by rfl) 35 _ _ (by rfl) (by rfl) w.heap.size Z (by rfl) (by rfl) (by rw [ZS.out]; exact infoHdP) Z 35 A7.out (by rfl) ZO.out ?_))
    try simp only [Exit.inBlock, Exit.then]
    refine ret_row_tmp (by rfl) w.heap.size 35 Z _ _ (by rfl) (by rfl) (A7.out.row Z) Try.underlying35 (by rfl) (by rw [ZS.out]; exact infoHdP) ?_
    rw [HP.out]
    simp only
    rw [← HZ.out]
    exact ⟨rfl, below_row (BZ.out.trans (B7.out.mono BZ.out.size)) (Nat.le_refl _) Z⟩
  | true =>
    refine (GOOD.out hm w6).mono ?_
    rintro e w7 ⟨q, rfl, ha, hq, hb⟩
    have B7 : Hid (Below w1.heap.size w1 w7) := Lib.hid (B6.out.trans (hb.mono B6.out.size))
    have A7 := Lib.hid (AZ.out.below B7.out W1S.out)
    have F7 := Lib.hid (A6.out.below hb A6.out.lt)
    have T7 := Lib.hid (at_sl ha (LLEN.out hm))
    have SB := Lib.hid (SL1.out.below B7.out)
    have hp := PAR.out
    rw [LLEN.out hm]
    have he := EQ.out w7 _ _ T7.out SB.out
    clear hb ha hq BAD GOOD
    by_cases heb : layH H = b
    · rw [if_pos ⟨hm, heb⟩] at hp
      rw [decide_eq_true heb] at he
      have HP := Lib.hid hp; have HE := Lib.hid he
      clear hp he heb hm
      go_wp2_with fail
      refine HE.out.mono ?_
      rintro e w' ⟨rfl, rfl⟩
      go_wp2_with (first
        | (refine wpList_load_all (by rfl) 35 _ (by rfl) g (by rfl) _ Try.underlying35 (by rfl) F _ F7.out (by rw [FS.out]; exact infoHdP) ?_)
        | (refine wpList_store_all (by rfl) 35 _ _ (by rfl) (by rfl) w.heap.size F (by rfl) (by rfl) (by rw [FS.out]; exact infoHdP) Z 35 A7.out (by rw [ZS.out, FS.out]) FO.out ?_))
      try simp only [Exit.inBlock, Exit.then]
      refine ret_row_tmp (by rfl) w.heap.size 35 F _ _ (by rfl) (by rfl) (At.row (C := Z) A7.out F) Try.underlying35 (by rfl) (by rw [FS.out]; exact infoHdP) ?_
      rw [HP.out]
      simp only
      rw [← HF.out]
      exact ⟨rfl, below_row (BZ.out.trans (B7.out.mono BZ.out.size)) (Nat.le_refl _) F⟩
    · rw [if_neg (fun h => heb h.2)] at hp
      rw [decide_eq_false heb] at he
      have HP := Lib.hid hp; have HE := Lib.hid he
      clear hp he heb hm
      go_wp2_with fail
      refine HE.out.mono ?_
      rintro e w' ⟨rfl, rfl⟩
      go_wp2_with (first
        | (refine Mem.wpList_build (by rfl) 35 _ #[] (.agg Z) (by rfl) (by simp) BN.out ?_)
        | (refine wpList_store_all (by rfl) 35 _ _ (by rfl) (by rfl) w.heap.size Z (by rfl) (by rfl) (by rw [ZS.out]; exact infoHdP) Z 35 A7.out (by rfl) ZO.out ?_))
      try simp only [Exit.inBlock, Exit.then]
      refine ret_row_tmp (by rfl) w.heap.size 35 Z _ _ (by rfl) (by rfl) (A7.out.row Z) Try.underlying35 (by rfl) (by rw [ZS.out]; exact infoHdP) ?_
      rw [HP.out]
      simp only
      rw [← HZ.out]
      exact ⟨rfl, below_row (BZ.out.trans (B7.out.mono BZ.out.size)) (Nat.le_refl _) Z⟩
theorem pparse11_any (b : List (BitVec 8)) (v : Value) (w : World) (hv : Sl w v b) (hl : b.length ≤ 1000) :
    Calls Try.prog 19 #[v] w fun e w' => e = .returned (.tuple #[.agg (hdC (parseH b).1), .int .i64 ((parseH b).2 : Int)]) ∧ Below w.heap.size w w' := by
  by_cases h1 : b.length ≠ 256
  · have e : parseH b = (zhd, 1) := by unfold parseH; rw [if_pos h1]
    rw [e]; exact pparse11_len b v w hv hl h1
  · have h1' : b.length = 256 := by omega
    by_cases h2 : b.take 4 ≠ carl
    · have e : parseH b = (zhd, 3) := by unfold parseH; rw [if_neg h1, if_pos h2]
      rw [e]; exact pparse11_magic b v w hv h1' h2
    · by_cases h3 : b.getD 4 0 ≠ 1 ∧ b.getD 4 0 ≠ 2
      · have e : parseH b = (zhd, 21) := by unfold parseH; rw [if_neg h1, if_neg h2, if_pos h3]
        rw [e]; exact pparse11_kind b v w hv h1' (Classical.not_not.1 h2) h3
      · exact pparse11_late b v w hv h1' (Classical.not_not.1 h2) h3
end Sha
end Go.Proofs.Ytbnjihpafipbnaa
