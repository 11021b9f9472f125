/- Layer 7: what the laws use besides: theirs, ours, alive. -/
import Derived.Test.YtknaimpnkflfnaaAncPParse
import Derived.Test.YtknaimpnkflfnaaAncPLay
namespace Go.Proofs.Ytknaimpnkflfnaa
namespace Sha
open Go.RowKit Mem
set_option maxRecDepth 100000 in
set_option maxHeartbeats 1000000 in
theorem theirs_any (a : Anc) (h : a.Wf) (w : World) : Calls Try.prog 8 #[.agg (ancC a)] w fun e w' => e = .returned (.agg (ancC a)) ∧ Below w.heap.size w w' := by
  obtain ⟨Z, hZ⟩ : ∃ Z, Z = ancC zanc := ⟨_, rfl⟩
  have zs : Z.size = 71 := by rw [hZ]; exact ancC_size zanc_wf
  have hx : ∀ w, (zeroValue 31).run Try.prog w = .ok (.agg Z) w := by rw [hZ]; exact zeroAncP
  obtain ⟨M, hM⟩ : ∃ M, M = ancC a := ⟨_, rfl⟩
  have ms : M.size = 71 := by rw [hM]; exact ancC_size h
  have mo : M.all (·.oneCell') = true := by rw [hM]; exact ancC_one _
  rw [← hM]
  have a1 := (at_new w M 26).alloc (.cells Z 31)
  have a2 := at_new (w.alloc (.cells M 26)) Z 31
  rw [World.size_alloc] at a2
  have b2 : Below w.heap.size w ((w.alloc (.cells M 26)).alloc (.cells Z 31)) := ((Below.refl _ w).alloc (Nat.le_refl _) _).alloc (by simp) _
  have ZS := Lib.hid zs; have MS := Lib.hid ms; have MO := Lib.hid mo; have A1 := Lib.hid a1; have A2 := Lib.hid a2; have B2 := Lib.hid b2
  clear zs ms mo a1 a2 b2 hZ hM
  go_enter Try.func8, Try.ntmps8
  go_upto_region 1 with fail
  clear hx
  generalize (w.alloc (.cells M 26)).alloc (.cells Z 31) = w2 at *
  go_wp2_with (first
    | (refine wpList_load_all (by rfl) 26 _ (by rfl) w.heap.size (by rfl) _ Try.underlying26 (by rfl) M _ A1.out (by rw [MS.out]; exact infoAncR) ?_)
    | (refine wpList_store_all (by rfl) 31 _ _ (by rfl) (by rfl) (w.heap.size + 1) M (by rfl) (by rfl) (by rw [MS.out]; exact infoAncP) Z 31 A2.out (by rw [MS.out, ZS.out]) MO.out ?_))
  try simp only [Exit.inBlock, Exit.then]
  refine ret_row (by rfl) (w.heap.size + 1) 31 M _ (by rfl) (A2.out.row M) Try.underlying31 (by rfl) (by rw [MS.out]; exact infoAncP) ?_
  exact ⟨rfl, below_row B2.out (by omega) M⟩
set_option maxRecDepth 100000 in
set_option maxHeartbeats 1000000 in
theorem ours_any (a : Anc) (h : a.Wf) (w : World) : Calls Try.prog 16 #[.agg (ancC a)] w fun e w' => e = .returned (.agg (ancC a)) ∧ Below w.heap.size w w' := by
  obtain ⟨Z, hZ⟩ : ∃ Z, Z = ancC zanc := ⟨_, rfl⟩
  have zs : Z.size = 71 := by rw [hZ]; exact ancC_size zanc_wf
  have hx : ∀ w, (zeroValue 26).run Try.prog w = .ok (.agg Z) w := by rw [hZ]; exact zeroAncR
  obtain ⟨M, hM⟩ : ∃ M, M = ancC a := ⟨_, rfl⟩
  have ms : M.size = 71 := by rw [hM]; exact ancC_size h
  have mo : M.all (·.oneCell') = true := by rw [hM]; exact ancC_one _
  rw [← hM]
  have a1 := (at_new w M 31).alloc (.cells Z 26)
  have a2 := at_new (w.alloc (.cells M 31)) Z 26
  rw [World.size_alloc] at a2
  have b2 : Below w.heap.size w ((w.alloc (.cells M 31)).alloc (.cells Z 26)) := ((Below.refl _ w).alloc (Nat.le_refl _) _).alloc (by simp) _
  have ZS := Lib.hid zs; have MS := Lib.hid ms; have MO := Lib.hid mo; have A1 := Lib.hid a1; have A2 := Lib.hid a2; have B2 := Lib.hid b2
  clear zs ms mo a1 a2 b2 hZ hM
  go_enter Try.func16, Try.ntmps16
  go_upto_region 1 with fail
  clear hx
  generalize (w.alloc (.cells M 31)).alloc (.cells Z 26) = w2 at *
  go_wp2_with (first
    | (refine wpList_load_all (by rfl) 31 _ (by rfl) w.heap.size (by rfl) _ Try.underlying31 (by rfl) M _ A1.out (by rw [MS.out]; exact infoAncP) ?_)
    | (refine wpList_store_all (by rfl) 26 _ _ (by rfl) (by rfl) (w.heap.size + 1) M (by rfl) (by rfl) (by rw [MS.out]; exact infoAncR) Z 26 A2.out (by rw [MS.out, ZS.out]) MO.out ?_))
  try simp only [Exit.inBlock, Exit.then]
  refine ret_row (by rfl) (w.heap.size + 1) 26 M _ (by rfl) (A2.out.row M) Try.underlying26 (by rfl) (by rw [MS.out]; exact infoAncR) ?_
  exact ⟨rfl, below_row B2.out (by omega) M⟩
set_option maxRecDepth 100000 in
set_option maxHeartbeats 4000000 in
theorem alive7_any (w : World) : Calls Try.prog 13 #[] w fun e w' => e = .returned (.bool true) ∧ Below w.heap.size w w' := by
  obtain ⟨Z, hZ⟩ : ∃ Z, Z = ancC zanc := ⟨_, rfl⟩
  have zs : Z.size = 71 := by rw [hZ]; exact ancC_size zanc_wf
  have hx : ∀ w, (zeroValue 31).run Try.prog w = .ok (.agg Z) w := by rw [hZ]; exact zeroAncP
  have hlay := fun wx => play_good anc7 anc7_wf (by decide) wx
  have hpar := fun v wx h => pparse_any (layA anc7) v wx h (by rw [layA_length anc7_wf]; decide)
  rw [parseA_layA anc7 anc7_wf (by decide)] at hpar
  have l0 : (layA anc7).getD 0 0 = 1 := by decide
  have l1 : (layA anc7).getD 1 0 = 5 := by decide
  have hbad := fun wx => pmay_any ancBad ancBad_wf wx
  rw [show mayA ancBad = false by decide] at hbad
  have hb7 := buildP7
  have hbb := buildPBad
  have heq := fun x y (wx : World) => eqlP anc7_wf anc7_wf x y wx
  rw [sameA_self] at heq
  obtain ⟨L, hL⟩ : ∃ L, L = layA anc7 := ⟨_, rfl⟩
  have ll : L.length = 128 := by rw [hL]; exact layA_length anc7_wf
  rw [← hL] at hlay hpar l0 l1
  obtain ⟨M, hM⟩ : ∃ M, M = ancC anc7 := ⟨_, rfl⟩
  have ms : M.size = 71 := by rw [hM]; exact ancC_size anc7_wf
  have mo : M.all (·.oneCell') = true := by rw [hM]; exact ancC_one _
  obtain ⟨D, hD⟩ : ∃ D, D = ancC ancBad := ⟨_, rfl⟩
  simp only at hpar
  rw [← hM] at hlay hpar hb7 heq
  rw [← hD] at hbad hbb
  have a1 := at_new w M 31
  have b1 : Below w.heap.size w (w.alloc (.cells M 31)) := (Below.refl _ w).alloc (Nat.le_refl _) _
  have ZS := Lib.hid zs; have MS := Lib.hid ms; have MO := Lib.hid mo; have A1 := Lib.hid a1; have B1 := Lib.hid b1; have LAY := Lib.hid hlay; have PAR := Lib.hid hpar; have L0 := Lib.hid l0; have L1 := Lib.hid l1; have BAD := Lib.hid hbad; have B7 := Lib.hid hb7; have BB := Lib.hid hbb; have EQ := Lib.hid heq; have LL := Lib.hid ll; have HZ := Lib.hid hZ
  clear zs ms mo a1 b1 hlay hpar l0 l1 hbad hb7 hbb heq ll hL hM hD hZ
  go_enter Try.func13, Try.ntmps13
  go_wp2_with (first
    | (refine Mem.wpList_build (by rfl) 31 _ #[(0, .int .i64 1), (1, .int .i64 5), (2, .int .u32 7), (6, .int .u32 7), (8, .int .u64 3)] (.agg M) (by rfl) (by simp [Act.eval]) B7.out ?_)
    | (refine wpList_store_new (by rfl) 31 _ _ (by rfl) (by rfl) M _ _ (by rfl) (by rfl) (by rw [MS.out]; exact infoAncP) (by rw [MS.out, ZS.out]) MO.out ?_; clear hx; generalize w.alloc (.cells M 31) = w1 at *)
    | (refine wpList_load_all (by rfl) 31 _ (by rfl) w.heap.size (by rfl) _ Try.underlying31 (by rfl) M _ A1.out (by rw [MS.out]; exact infoAncP) ?_))
  refine (LAY.out w1).mono ?_
  rintro e w2 ⟨g, rfl, ha2, hg2, hb2⟩
  rw [LL.out]
  have A2 := Lib.hid (A1.out.below hb2 A1.out.lt); have G2 := Lib.hid ha2; have HG := Lib.hid hg2; have B2 : Hid (Below w.heap.size w w2) := B1.out.trans (hb2.mono B1.out.size)
  have S2 : Hid (Sl w2 (.slice (some ⟨g, 0, none⟩) 128 128) L) := by have h := at_sl ha2 rfl; rw [LL.out] at h; exact h
  clear ha2 hg2 hb2
  go_wp2_with fail
  refine (PAR.out _ w2 S2.out).mono ?_
  rintro e w3 ⟨rfl, hb3⟩
  have al : Below w3.heap.size w3 (w3.alloc (.cells M 31)) := (Below.refl _ _).alloc (Nat.le_refl _) _
  have A3 := Lib.hid ((A2.out.below hb3 A2.out.lt).below al (A2.out.below hb3 A2.out.lt).lt); have G3 := Lib.hid ((G2.out.below hb3 G2.out.lt).below al (G2.out.below hb3 G2.out.lt).lt)
  have b3 : Below w.heap.size w w3 := B2.out.trans (hb3.mono B2.out.size)
  have B3 : Hid (Below w.heap.size w (w3.alloc (.cells M 31))) := b3.trans (al.mono b3.size)
  have P3 := Lib.hid (at_new w3 M 31)
  have C0 : Hid ((w3.alloc (.cells M 31)).cell? ⟨g, 0, none⟩ = some (.int .u8 1)) := by
    have h := u8s_get L 0 (by rw [LL.out]; decide)
    rw [L0.out] at h
    exact (G3.out.cell 0).trans (by rw [List.getElem?_toArray]; exact h)
  have C1 : Hid ((w3.alloc (.cells M 31)).cell? ⟨g, 1, none⟩ = some (.int .u8 5)) := by
    have h := u8s_get L 1 (by rw [LL.out]; decide)
    rw [L1.out] at h
    exact (G3.out.cell 1).trans (by rw [List.getElem?_toArray]; exact h)
  clear hb3 al b3 A2 S2
  have hx : ∀ w, (zeroValue 31).run Try.prog w = .ok (.agg Z) w := by rw [HZ.out]; exact zeroAncP
  go_wp2_with (first
    | (refine wpList_store_new (by rfl) 31 _ _ (by rfl) (by rfl) M _ _ (by rfl) (by rfl) (by rw [MS.out]; exact infoAncP) (by rw [MS.out, ZS.out]) MO.out ?_; clear hx; generalize w3.alloc (.cells M 31) = w4 at *; generalize w3.heap.size = q at *; have c0 := C0.out; have c1 := C1.out)
    | (refine wpList_load_wanted (by rfl) 31 _ (by rfl) q (by rfl) _ Try.underlying31 (by rfl) M _ P3.out (by rw [MS.out]; exact infoAncP) ?_)
    | (refine wpList_load_wanted (by rfl) 31 _ (by rfl) w.heap.size (by rfl) _ Try.underlying31 (by rfl) M _ A3.out (by rw [MS.out]; exact infoAncP) ?_)
    | (refine wpList_bin (by rfl) .eql 31 31 _ _ (.agg M) (.agg M) (.bool true) (by rfl) (by rfl) (by rfl) (fun wx => EQ.out _ _ wx) ?_)
    | (refine Mem.wpList_build (by rfl) 31 _ #[(0, .int .i64 3), (1, .int .i64 1)] (.agg D) (by rfl) (by simp [Act.eval]) BB.out ?_))
  refine (BAD.out _).mono ?_
  rintro e w5 ⟨rfl, hb5⟩
  have B5 : Hid (Below w.heap.size w w5) := B3.out.trans (hb5.mono B3.out.size)
  clear hb5
  go_wp2_with fail
  go_ret
  exact ⟨rfl, B5.out⟩
end Sha
end Go.Proofs.Ytknaimpnkflfnaa
