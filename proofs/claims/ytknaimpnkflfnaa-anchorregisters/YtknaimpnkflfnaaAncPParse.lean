/- The program's Parse: its walk. -/
import Derived.Test.YtknaimpnkflfnaaAncTake
import Derived.Test.YtknaimpnkflfnaaAncPMay
import Derived.Test.YtknaimpnkflfnaaWanted
namespace Go.Proofs.Ytknaimpnkflfnaa
namespace Sha
open Go.RowKit Mem
set_option maxRecDepth 100000 in
set_option maxHeartbeats 2000000 in
theorem pparse_bad (b : List (BitVec 8)) (v : Value) (w : World) (hv : Sl w v b) (hl : b.length ≤ 1000) (h : b.length ≠ 128) :
    Calls Try.prog 14 #[v] w fun e w' => e = .returned (.tuple #[.agg (ancC zanc), .int .i64 (if b.length < 128 then 4 else 3)]) ∧ Below w.heap.size w w' := by
  obtain ⟨a0, cap, rfl, _, _⟩ := hv
  obtain ⟨n, hn⟩ : ∃ n, n = b.length := ⟨_, rfl⟩
  rw [← hn] at h hl ⊢
  clear hn
  obtain ⟨Z, hZ⟩ : ∃ Z, Z = ancC zanc := ⟨_, rfl⟩
  have zs : Z.size = 71 := by rw [hZ]; exact ancC_size zanc_wf
  have zo : Z.all (·.oneCell') = true := by rw [hZ]; exact ancC_one _
  have hx : ∀ w, (zeroValue 31).run Try.prog w = .ok (.agg Z) w := by rw [hZ]; exact zeroAncP
  have bn : ∀ w, (Instr.build 31 #[]).run Try.prog w = .ok (.agg Z) w := by rw [hZ]; exact buildP0
  rw [← hZ]
  have az := at_new w Z 31
  have bz : Below w.heap.size w (w.alloc (.cells Z 31)) := (Below.refl _ _).alloc (Nat.le_refl _) _
  have ZS := Lib.hid zs; have ZO := Lib.hid zo; have BN := Lib.hid bn; have AZ := Lib.hid az; have BZ := Lib.hid bz
  clear zs zo bn az bz hZ
  by_cases hs : n < 128
  · have g : (n : Int) < 128 := by omega
    rw [if_pos hs]
    go_enter Try.func14, Try.ntmps14
    go_upto_region 1 with fail
    clear hx
    generalize w.alloc (.cells Z 31) = w1 at *
    go_wp2_with (first
      | (refine Mem.wpList_build (by rfl) 31 _ #[] (.agg Z) (by rfl) (by simp) BN.out ?_)
      | (refine wpList_store_all (by rfl) 31 _ _ (by rfl) (by rfl) w.heap.size Z (by rfl) (by rfl) (by rw [ZS.out]; exact infoAncP) Z 31 AZ.out (by rfl) ZO.out ?_))
    try simp only [Exit.inBlock, Exit.then]
    refine ret_row_tmp (by rfl) w.heap.size 31 Z _ _ (by rfl) (by rfl) (AZ.out.row Z) Try.underlying31 (by rfl) (by rw [ZS.out]; exact infoAncP) ?_
    exact ⟨rfl, below_row BZ.out (Nat.le_refl _) Z⟩
  · have g : ¬ (n : Int) < 128 := by omega
    have g2 : (128 : Int) < (n : Int) := by omega
    rw [if_neg hs]
    go_enter Try.func14, Try.ntmps14
    go_upto_region 1 with fail
    clear hx
    generalize w.alloc (.cells Z 31) = w1 at *
    go_wp2_with (first
      | (refine Mem.wpList_build (by rfl) 31 _ #[] (.agg Z) (by rfl) (by simp) BN.out ?_)
      | (refine wpList_store_all (by rfl) 31 _ _ (by rfl) (by rfl) w.heap.size Z (by rfl) (by rfl) (by rw [ZS.out]; exact infoAncP) Z 31 AZ.out (by rfl) ZO.out ?_))
    try simp only [Exit.inBlock, Exit.then]
    refine ret_row_tmp (by rfl) w.heap.size 31 Z _ _ (by rfl) (by rfl) (AZ.out.row Z) Try.underlying31 (by rfl) (by rw [ZS.out]; exact infoAncP) ?_
    exact ⟨rfl, below_row BZ.out (Nat.le_refl _) Z⟩
set_option maxRecDepth 100000 in
set_option maxHeartbeats 4000000 in
theorem pparse_128 (b : List (BitVec 8)) (v : Value) (w : World) (hv : Sl w v b) (hl : b.length = 128) :
    Calls Try.prog 14 #[v] w fun e w' => e = .returned (.tuple #[.agg (ancC (parseA b).1), .int .i64 ((parseA b).2 : Nat)]) ∧ Below w.heap.size w w' := by
  have hmf : ∀ (fn : Fn) (first cap : Array Value) (w : World), (Instr.makeFunc fn first cap).run Try.prog w = .ok (.func fn first cap) w := fun _ _ _ _ => rfl
  have htw := takeA_wf b
  obtain ⟨p, hp⟩ : ∃ p, p = takeA b := ⟨_, rfl⟩
  have htk := fun br wx h => ptake_any b br wx h hl
  have hsp := takeA_spec b hl
  rw [← hp] at htw htk hsp
  obtain ⟨A, b2, e2⟩ := p
  simp only at htw htk hsp
  obtain ⟨q, hq⟩ : ∃ q, q = rdRest b2 e2 := ⟨_, rfl⟩
  have hrs := fun br wx (h : RPk wx br b2 e2) => prest_any b2 e2 br wx h (Nat.le_trans htw.2 (by omega))
  rw [← hq] at hrs
  have hcase : (q = 0 ∧ mayA A = true ∧ parseA b = (A, 0)) ∨ (q ≠ 0 ∧ parseA b = (zanc, 3)) ∨ (q = 0 ∧ mayA A = false ∧ parseA b = (zanc, 3)) := by
    rcases hsp with h1 | ⟨h1, h2⟩
    · injection h1 with h1 h3
      injection h3 with h3 h4
      have hz := layA_ancOf_iff b hl
      rw [h3, h4] at hq
      cases hall : allZ (b.drop 85) with
      | true =>
        have q0 : q = 0 := by rw [hq, rdRest, if_neg (by rw [hall]; simp)]
        have hL := hz.2 hall
        by_cases hm : mayA (ancOf b) = true
        · exact .inl ⟨q0, by rw [h1]; exact hm, by rw [h1]; exact parseA_yes b hl hm hL⟩
        · exact .inr (.inr ⟨q0, by rw [h1]; simpa using hm, parseA_no b hl (fun h => hm h.1)⟩)
      | false =>
        have q3 : q = 3 := by rw [hq, rdRest, if_pos ⟨rfl, hall⟩]
        exact .inr (.inl ⟨by omega, parseA_no b hl (fun h => by have := hz.1 h.2; rw [hall] at this; cases this)⟩)
    · have q3 : q = 3 := by rw [hq, rdRest, if_neg (by omega), h1]
      exact .inr (.inl ⟨by omega, parseA_no b hl (fun h => by rw [h2] at h; cases h.1)⟩)
  have hmay := fun wx => pmay_any A htw.1 wx
  have q9 : q ≤ 100 ∨ True := .inr trivial
  obtain ⟨M, hM⟩ : ∃ M, M = ancC A := ⟨_, rfl⟩
  have ms : M.size = 71 := by rw [hM]; exact ancC_size htw.1
  have mo : M.all (·.oneCell') = true := by rw [hM]; exact ancC_one _
  rw [← hM] at hmay htk
  obtain ⟨Z, hZ⟩ : ∃ Z, Z = ancC zanc := ⟨_, rfl⟩
  have zs : Z.size = 71 := by rw [hZ]; exact ancC_size zanc_wf
  have zo : Z.all (·.oneCell') = true := by rw [hZ]; exact ancC_one _
  have hx : ∀ w, (zeroValue 31).run Try.prog w = .ok (.agg Z) w := by rw [hZ]; exact zeroAncP
  have bn : ∀ w, (Instr.build 31 #[]).run Try.prog w = .ok (.agg Z) w := by rw [hZ]; exact buildP0
  have az := at_new w Z 31
  have bz : Below w.heap.size w (w.alloc (.cells Z 31)) := (Below.refl _ _).alloc (Nat.le_refl _) _
  obtain ⟨w1, hw1⟩ : ∃ w1, w1 = w.alloc (.cells Z 31) := ⟨_, rfl⟩
  have s1 : w1.heap.size = w.heap.size + 1 := by rw [hw1]; simp
  rw [← hw1] at az bz
  have hrd := read_any b v w1 (hv.below bz) (by omega)
  obtain ⟨a0, cap, rfl, _, _⟩ := hv
  rw [hl] at hrd ⊢
  have ZS := Lib.hid zs; have ZO := Lib.hid zo; have BN := Lib.hid bn; have AZ := Lib.hid az; have BZ := Lib.hid bz; have RD := Lib.hid hrd; have TK := Lib.hid htk; have RS := Lib.hid hrs; have MAY := Lib.hid hmay; have HC := Lib.hid hcase; have MS := Lib.hid ms; have MO := Lib.hid mo; have HM := Lib.hid hM; have HZ := Lib.hid hZ; have W1 := Lib.hid s1
  clear zs zo bn az bz hrd htk hrs hmay hcase ms mo hM hZ hsp htw hq hp q9 s1 hl
  have g1 : ¬ (128 : Int) < 128 := by decide
  go_enter Try.func14, Try.ntmps14
  go_upto_region 1 with fail
  clear hx
  rw [← hw1]
  clear hw1
  go_wp2_with fail
  refine RD.out.mono ?_
  rintro e w2 ⟨br, rfl, hbr, hr2, hb2⟩
  have R2 := Lib.hid hr2; have B2 := Lib.hid hb2; have BR := Lib.hid hbr
  clear hr2 hb2 hbr
  have hx : ∀ w, (zeroValue 31).run Try.prog w = .ok (.agg Z) w := by rw [HZ.out]; exact zeroAncP
  go_wp2_with fail
  refine (TK.out br w2 R2.out).mono ?_
  rintro e w3 ⟨rfl, hp3⟩
  have b3 : Below w.heap.size w w3 := hp3.k _ _ (BZ.out.trans (B2.out.mono BZ.out.size)) (Nat.le_trans BZ.out.size BR.out)
  have a3 : At w3 w.heap.size Z 31 := (AZ.out.below B2.out AZ.out.lt).but hp3.o (by have := BR.out; have := W1.out; omega)
  have al : Below w3.heap.size w3 (w3.alloc (.cells M 31)) := (Below.refl _ _).alloc (Nat.le_refl _) _
  have a4 := a3.below al a3.lt
  have b4 : Below w.heap.size w (w3.alloc (.cells M 31)) := b3.trans (al.mono b3.size)
  have r4 := hp3.r.below al
  have g4 := at_new w3 M 31
  have n4 : br < w3.heap.size := hp3.r.lt
  have A4 := Lib.hid a4; have B4 := Lib.hid b4; have R4 := Lib.hid r4; have G4 := Lib.hid g4; have N4 := Lib.hid n4
  clear hp3 b3 a3 al a4 b4 r4 g4 n4 R2 B2
  go_wp2_with (refine wpList_store_new (by rfl) 31 _ _ (by rfl) (by rfl) M _ _ (by rfl) (by rfl) (by rw [MS.out]; exact infoAncP) (by rw [MS.out, ZS.out]) MO.out ?_; clear hx; generalize w3.alloc (.cells M 31) = w4 at *; generalize w3.heap.size = g at *)
  refine (RS.out br w4 R4.out).mono ?_
  rintro e w5 ⟨rfl, hp5⟩
  have A5 := Lib.hid (A4.out.but hp5.o (by have := BR.out; have := W1.out; omega)); have G5 := Lib.hid (G4.out.but hp5.o (by have := N4.out; omega)); have B5 := Lib.hid (hp5.k _ _ B4.out (Nat.le_trans BZ.out.size BR.out))
  clear hp5 A4 G4 B4 R4
  rcases HC.out with ⟨q0, hm, hpa⟩ | ⟨q0, hpa⟩ | ⟨q0, hm, hpa⟩
  · subst q0
    have MAY2 := Lib.hid (fun wx => by have h := MAY.out wx; rw [hm] at h; exact h)
    have PA := Lib.hid hpa
    clear hm hpa MAY
    go_wp2_with (refine wpList_load_wanted (by rfl) 31 _ (by rfl) g (by rfl) _ Try.underlying31 (by rfl) M _ G5.out (by rw [MS.out]; exact infoAncP) ?_)
    refine (MAY2.out w5).mono ?_
    rintro e w6 ⟨rfl, hb6⟩
    have A6 := Lib.hid (A5.out.below hb6 A5.out.lt); have G6 := Lib.hid (G5.out.below hb6 G5.out.lt); have B6 := Lib.hid (B5.out.trans (hb6.mono B5.out.size))
    clear hb6
    go_wp2_with (first
      | (refine wpList_load_all (by rfl) 31 _ (by rfl) g (by rfl) _ Try.underlying31 (by rfl) M _ G6.out (by rw [MS.out]; exact infoAncP) ?_)
      | (refine wpList_store_all (by rfl) 31 _ _ (by rfl) (by rfl) w.heap.size M (by rfl) (by rfl) (by rw [MS.out]; exact infoAncP) Z 31 A6.out (by rw [MS.out, ZS.out]) MO.out ?_))
    try simp only [Exit.inBlock, Exit.then]
    refine ret_row_tmp (by rfl) w.heap.size 31 M _ _ (by rfl) (by rfl) (At.row (C := Z) A6.out M) Try.underlying31 (by rfl) (by rw [MS.out]; exact infoAncP) ?_
    exact ⟨by rw [PA.out, HM.out]; rfl, below_row B6.out (Nat.le_refl _) M⟩
  · have q1 : ¬ (q : Int) = 0 := by omega
    have q2 : ((q : Int) != 0) = true := by simpa using q0
    have PA := Lib.hid hpa
    clear hpa MAY q0
    go_wp2_with (first
      | (refine Mem.wpList_build (by rfl) 31 _ #[] (.agg Z) (by rfl) (by simp) BN.out ?_)
      | (refine wpList_store_all (by rfl) 31 _ _ (by rfl) (by rfl) w.heap.size Z (by rfl) (by rfl) (by rw [ZS.out]; exact infoAncP) Z 31 A5.out (by rfl) ZO.out ?_))
    try simp only [Exit.inBlock, Exit.then]
    refine ret_row_tmp (by rfl) w.heap.size 31 Z _ _ (by rfl) (by rfl) (At.row (C := Z) A5.out Z) Try.underlying31 (by rfl) (by rw [ZS.out]; exact infoAncP) ?_
    exact ⟨by rw [PA.out, HZ.out]; rfl, below_row B5.out (Nat.le_refl _) Z⟩
  · subst q0
    have MAY2 := Lib.hid (fun wx => by have h := MAY.out wx; rw [hm] at h; exact h)
    have PA := Lib.hid hpa
    clear hm hpa MAY
    go_wp2_with (refine wpList_load_wanted (by rfl) 31 _ (by rfl) g (by rfl) _ Try.underlying31 (by rfl) M _ G5.out (by rw [MS.out]; exact infoAncP) ?_)
    refine (MAY2.out w5).mono ?_
    rintro e w6 ⟨rfl, hb6⟩
    have A6 := Lib.hid (A5.out.below hb6 A5.out.lt); have G6 := Lib.hid (G5.out.below hb6 G5.out.lt); have B6 := Lib.hid (B5.out.trans (hb6.mono B5.out.size))
    clear hb6
    go_wp2_with (first
      | (refine Mem.wpList_build (by rfl) 31 _ #[] (.agg Z) (by rfl) (by simp) BN.out ?_)
      | (refine wpList_store_all (by rfl) 31 _ _ (by rfl) (by rfl) w.heap.size Z (by rfl) (by rfl) (by rw [ZS.out]; exact infoAncP) Z 31 A6.out (by rfl) ZO.out ?_))
    try simp only [Exit.inBlock, Exit.then]
    refine ret_row_tmp (by rfl) w.heap.size 31 Z _ _ (by rfl) (by rfl) (At.row (C := Z) A6.out Z) Try.underlying31 (by rfl) (by rw [ZS.out]; exact infoAncP) ?_
    exact ⟨by rw [PA.out, HZ.out]; rfl, below_row B6.out (Nat.le_refl _) Z⟩
theorem pparse_any (b : List (BitVec 8)) (v : Value) (w : World) (hv : Sl w v b) (hl : b.length ≤ 1000) :
    Calls Try.prog 14 #[v] w fun e w' => e = .returned (.tuple #[.agg (ancC (parseA b).1), .int .i64 ((parseA b).2 : Nat)]) ∧ Below w.heap.size w w' := by
  by_cases h : b.length = 128
  · exact pparse_128 b v w hv h
  · refine (pparse_bad b v w hv hl h).mono ?_
    rintro e w' ⟨rfl, hb⟩
    refine ⟨?_, hb⟩
    rw [parseA_bad b h]
    split <;> rfl
end Sha
end Go.Proofs.Ytknaimpnkflfnaa
