/- Layer 10, WrapUnwraps: the master key of any wrapped key is the document's. -/
import Derived.Test.YtjadjidjfkahpaaDoorCW
import Derived.Deep.DeepCutAuto
namespace Go.Proofs.YtjadjidjfkahpaaDoor
namespace Sha
open Go.RowKit Mem
set_option maxRecDepth 100000
set_option maxHeartbeats 8000000 in
theorem unwraps10_core {T : World → Prop} (P : WrapP T) (p : List (BitVec 8)) (x : WrV) (hx' : x.Wf) (v : Value) (w : World) (hp : Sl w v p) (hT : T w) :
    Calls Tryd.prog 4 #[v, .agg (wrC x)] w fun e w' => e = .returned (.bool true) ∧ Below w.heap.size w w' := by
  obtain ⟨a0, c0, rfl⟩ := sl_hdw hp
  obtain ⟨n, hn⟩ : ∃ n, n = p.length := ⟨_, rfl⟩
  rw [← hn] at hp ⊢
  have far := fun wx => far10_any a0 n c0 z16 x.r z32 rfl wx
  have ba := fun wx => build_askW a0 n c0 x.r wx
  obtain ⟨AA, hAA⟩ : ∃ A, A = askW (.slice a0 n c0) z16 x.r z32 := ⟨_, rfl⟩
  rw [← hAA] at far ba
  have al := fun wx (h : T wx) => alive10_any P wx h
  have hb := fun {wx wy : World} (h : T wx) (b : Below wx.heap.size wx wy) => P.below h b
  have cvs := wrC_size hx'
  have cr := wr_r hx'
  have th := fun wx => theirs10_any x hx' wx
  have hu := fun wx (h : Sl wx (.slice a0 n c0) p) (ht : T wx) (hle : p.length ≤ 1000) => P.unwrap p x (.slice a0 n c0) wx hx' h hle ht
  have hr := fun wx (h : Sl wx (.slice a0 n c0) p) (hle : p.length ≤ 1000) => runwrap_any p x hx' (.slice a0 n c0) wx h (by omega)
  have lk := unwrapR_len p x hx'
  obtain ⟨u, hu'⟩ : ∃ u, u = (unwrapR p x).1 := ⟨_, rfl⟩
  obtain ⟨q, hq⟩ : ∃ q, q = (unwrapR p x).2 := ⟨_, rfl⟩
  rw [← hu'] at lk
  rw [← hu', ← hq] at hu hr
  have eqk := fun xo yo wx => eqlDg u u lk lk xo yo wx
  rw [show (u == u) = true by simp] at eqk
  have mks : (u8s u).toArray.size = 32 := by simp [u8s_length, lk]
  have mko : (u8s u).toArray.all (·.oneCell') = true := u8s_one _
  obtain ⟨MK, hMK⟩ : ∃ C, C = (u8s u).toArray := ⟨_, rfl⟩
  rw [← hMK] at eqk mks mko
  obtain ⟨r, hr'⟩ : ∃ r, r = x.r := ⟨_, rfl⟩
  rw [← hr'] at far ba cr
  obtain ⟨CV, hCV⟩ : ∃ C, C = wrC x := ⟨_, rfl⟩
  rw [← hCV] at cvs cr th hu hr ⊢
  have hu2 : ∀ wx, Sl wx (.slice a0 n c0) p → T wx → p.length ≤ 1000 → Calls Tryd.prog 14 #[.slice a0 n c0, .agg CV] wx fun e w' => e = .returned (.tuple #[.agg MK, .int .i64 q]) ∧ Below wx.heap.size wx w' := fun wx h ht hl => by rw [hMK]; exact hu wx h ht hl
  have hr2 : ∀ wx, Sl wx (.slice a0 n c0) p → p.length ≤ 1000 → Calls Tryd.prog 16 #[.slice a0 n c0, .agg CV] wx fun e w' => e = .returned (.tuple #[.agg MK, .int .i64 q]) ∧ Below wx.heap.size wx w' := fun wx h hl => by rw [hMK]; exact hr wx h hl
  obtain ⟨ZW, hZW⟩ : ∃ Z, Z = wrC zwr := ⟨_, rfl⟩
  have zws : ZW.size = 81 := by rw [hZW]; exact wrC_size zwr_wf
  have hxw : ∀ w, (zeroValue 30).run Tryd.prog w = .ok (.agg ZW) w := by rw [hZW]; exact zeroWrP
  have hxr : ∀ w, (zeroValue 34).run Tryd.prog w = .ok (.agg ZW) w := by rw [hZW]; exact zeroWrR
  obtain ⟨Z, hZ⟩ : ∃ Z, Z = (u8s z32).toArray := ⟨_, rfl⟩
  have zs : Z.size = 32 := by rw [hZ]; simp [z32, u8s_length]
  have hx : ∀ w, (zeroValue 24).run Tryd.prog w = .ok (.agg Z) w := by rw [hZ]; exact zeroK32
  have ZWS := Lib.hid zws; have ZS := Lib.hid zs; have HXW := Lib.hid hxw; have HXR := Lib.hid hxr; have HX := Lib.hid hx
  clear zws zs hxw hxr hx hZ hZW
  obtain ⟨w1, hw1⟩ : ∃ w1, w1 = w.alloc (.cells CV 34) := ⟨_, rfl⟩
  have ax : At w1 w.heap.size CV 34 := by rw [hw1]; exact at_new w _ _
  have b1 : Below w.heap.size w w1 := by rw [hw1]; exact (Below.refl _ _).alloc (Nat.le_refl _) _
  have hp1 := hp.below b1
  have ht1 := P.below hT b1
  have AX := Lib.hid ax; have B1 := Lib.hid b1; have HP := Lib.hid hp1; have HT := Lib.hid ht1; have AL := Lib.hid al; have CVS := Lib.hid cvs; have CR := Lib.hid cr; have TH := Lib.hid th; have BA := Lib.hid ba; have EQK := Lib.hid eqk; have MKS := Lib.hid mks; have MKO := Lib.hid mko
  clear ax b1 hp1 ht1 al cvs cr th ba eqk mks mko hu hr hu' hq hMK hr' hCV hAA lk hp hT hx'
  by_cases hf : farW n r = true
  · rw [hf] at far
    have FAR := Lib.hid far
    clear far hf hn hu2 hr2
    go_enter Tryd.func4, Tryd.ntmps4
    go_upto_region 1 with fail
    rw [← hw1]
    clear hw1
    have cf0 : w1.cell? ⟨w.heap.size, 16, none⟩ = some (.int .i64 r) := (AX.out.cell 16).trans CR.out
    go_wp2_with (refine Mem.wpList_build (by rfl) 26 _ #[(0, .slice a0 n c0), (2, .int .i64 r)] (.agg AA) (by rfl) (by first | rfl | simp [Act.eval]) BA.out ?_)
    refine (FAR.out w1).mono ?_
    rintro e x0 ⟨rfl, hb0⟩
    have G0 := Lib.hid hb0
    clear hb0
    clear cf0
    go_wp2_with fail
    refine (AL.out _ (hb HT.out G0.out)).mono ?_
    rintro e x9 ⟨rfl, hb9⟩
    have G9 : Hid (Below w1.heap.size w1 x9) := Lib.hid (G0.out.trans (hb9.mono G0.out.size))
    clear hb9
    go_wp2_with fail
    go_ret
    exact ⟨rfl, B1.out.trans (G9.out.mono B1.out.size)⟩
  · have hf' : farW n r = false := by simpa using hf
    have hle := farW_le hf'
    rw [hf'] at far
    have lp : p.length ≤ 1000 := by omega
    have HU := Lib.hid (fun wx h ht => hu2 wx h ht lp); have HR := Lib.hid (fun wx h => hr2 wx h lp)
    have FAR := Lib.hid far
    clear far hf hf' hn hu2 hr2 hle lp
    go_enter Tryd.func4, Tryd.ntmps4
    go_upto_region 1 with fail
    rw [← hw1]
    clear hw1
    have cf0 : w1.cell? ⟨w.heap.size, 16, none⟩ = some (.int .i64 r) := (AX.out.cell 16).trans CR.out
    go_wp2_with (refine Mem.wpList_build (by rfl) 26 _ #[(0, .slice a0 n c0), (2, .int .i64 r)] (.agg AA) (by rfl) (by first | rfl | simp [Act.eval]) BA.out ?_)
    refine (FAR.out w1).mono ?_
    rintro e x0 ⟨rfl, hb0⟩
    have G0 := Lib.hid hb0
    clear hb0
    clear cf0
    have cf1 : x0.cell? ⟨w.heap.size, 16, none⟩ = some (.int .i64 r) := ((AX.out.below G0.out AX.out.lt).cell 16).trans CR.out
    go_wp2_with (first
      | (refine wpList_load_wanted (by rfl) 34 _ (by rfl) w.heap.size (by rfl) _ Tryd.underlying34 (by rfl) CV _ (AX.out.below G0.out AX.out.lt) (by rw [CVS.out]; exact infoWrR) ?_))
    clear cf1
    refine (TH.out _).mono ?_
    rintro e x2 ⟨rfl, hb⟩
    have G2 : Hid (Below w1.heap.size w1 x2) := Lib.hid (G0.out.trans (hb.mono G0.out.size))
    clear hb
    clear G0
    go_wp2_with fail
    refine (HU.out _ (HP.out.below G2.out) (hb HT.out G2.out)).mono ?_
    rintro e x3 ⟨rfl, hb⟩
    have G3 : Hid (Below w1.heap.size w1 x3) := Lib.hid (G2.out.trans (hb.mono G2.out.size))
    clear hb
    clear G2
    have G4 : Hid (Below w1.heap.size w1 (x3.alloc (.cells MK 24))) := Lib.hid (G3.out.alloc G3.out.size _)
    have K5 := Lib.hid (at_new x3 MK 24)
    have hz := HX.out
    go_upto_region 4 with (refine wpList_store_new (by rfl) 24 _ _ (by rfl) (by rfl) MK _ _ (by rfl) (by rfl) (by rw [MKS.out]; exact infoDg) (by first | rfl | rw [MKS.out, ZS.out]) MKO.out ?_)
    clear hz
    obtain ⟨g4, hg⟩ : ∃ g, g = x3.heap.size := ⟨_, rfl⟩
    rw [← hg] at K5 ⊢
    clear hg
    generalize (x3.alloc (.cells MK 24)) = y4 at *
    clear G3
    have cf5 : y4.cell? ⟨w.heap.size, 16, none⟩ = some (.int .i64 r) := ((AX.out.below G4.out AX.out.lt).cell 16).trans CR.out
    go_wp2_with (first
      | (refine wpList_load_wanted (by rfl) 34 _ (by rfl) w.heap.size (by rfl) _ Tryd.underlying34 (by rfl) CV _ (AX.out.below G4.out AX.out.lt) (by rw [CVS.out]; exact infoWrR) ?_)
      | (refine wpList_load_wanted (by rfl) 24 _ (by rfl) g4 (by rfl) _ Tryd.underlying24 (by rfl) MK _ K5.out (by rw [MKS.out]; exact infoDg) ?_))
    clear cf5
    refine (HR.out _ (HP.out.below G4.out)).mono ?_
    rintro e x6 ⟨rfl, hb⟩
    have G6 : Hid (Below w1.heap.size w1 x6) := Lib.hid (G4.out.trans (hb.mono G4.out.size))
    have K5_6 := Lib.hid (K5.out.below hb K5.out.lt)
    clear hb
    clear K5 G4
    have G7 : Hid (Below w1.heap.size w1 (x6.alloc (.cells MK 24))) := Lib.hid (G6.out.alloc G6.out.size _)
    have K5_7 := Lib.hid (K5_6.out.alloc (.cells MK 24))
    have K7 := Lib.hid (at_new x6 MK 24)
    have hz := HX.out
    go_upto_region 5 with (refine wpList_store_new (by rfl) 24 _ _ (by rfl) (by rfl) MK _ _ (by rfl) (by rfl) (by rw [MKS.out]; exact infoDg) (by first | rfl | rw [MKS.out, ZS.out]) MKO.out ?_)
    clear hz
    obtain ⟨g7, hg⟩ : ∃ g, g = x6.heap.size := ⟨_, rfl⟩
    rw [← hg] at K7 ⊢
    clear hg
    generalize (x6.alloc (.cells MK 24)) = y7 at *
    clear K5_6 G6
    have cf8 : y7.cell? ⟨w.heap.size, 16, none⟩ = some (.int .i64 r) := ((AX.out.below G7.out AX.out.lt).cell 16).trans CR.out
    go_wp2_with (first
      | (refine wpList_load_wanted (by rfl) 34 _ (by rfl) w.heap.size (by rfl) _ Tryd.underlying34 (by rfl) CV _ (AX.out.below G7.out AX.out.lt) (by rw [CVS.out]; exact infoWrR) ?_)
      | (refine wpList_load_wanted (by rfl) 24 _ (by rfl) g4 (by rfl) _ Tryd.underlying24 (by rfl) MK _ K5_7.out (by rw [MKS.out]; exact infoDg) ?_)
      | (refine wpList_load_wanted (by rfl) 24 _ (by rfl) g7 (by rfl) _ Tryd.underlying24 (by rfl) MK _ K7.out (by rw [MKS.out]; exact infoDg) ?_)
      | (refine wpList_bin (by rfl) .eql 24 24 _ _ (.agg MK) (.agg MK) (.bool true) (by rfl) (by rfl) (by rfl) (fun wx => EQK.out _ _ wx) ?_))
    refine (AL.out _ (hb HT.out G7.out)).mono ?_
    rintro e x9 ⟨rfl, hb9⟩
    have G9 : Hid (Below w1.heap.size w1 x9) := Lib.hid (G7.out.trans (hb9.mono G7.out.size))
    clear hb9
    go_wp2_with fail
    go_ret
    exact ⟨rfl, B1.out.trans (G9.out.mono B1.out.size)⟩
end Sha
end Go.Proofs.YtjadjidjfkahpaaDoor
