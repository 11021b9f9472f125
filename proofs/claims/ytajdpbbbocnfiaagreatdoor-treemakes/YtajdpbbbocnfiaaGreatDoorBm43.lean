/- The program's Digest with a book or none; Hide. The program's Open. -/
import Derived.Test.YtajdpbbbocnfiaaGreatDoorBm12
import Derived.Test.YtajdpbbbocnfiaaGreatDoorBm40
namespace Go.Proofs.YtajdpbbbocnfiaaGreatDoor
namespace Sha
open Go.RowKit Mem
theorem pdig_any {F G : Foot} {bp : Value} {ts : List (List (BitVec 8))} (l : List (BitVec 8)) (v : Value) (w x : World) (hr : BkO F bp w ts) (hn : ts.length < 100000) (hv : SlB G w v l) (hG : ∀ k, G k → ¬ F k) (hp : l.length ≤ 1000000) (hT : Tabs x) (hxw : Below x.heap.size x w) (hF : ∀ k, F k → x.heap.size ≤ k) :
 Calls Tryz.prog 65 #[bp, v] w fun e w' => e = .returned (.agg (u8s (digestOf l)).toArray) ∧ BkEnd F bp w (ts ++ [l]) w' := by
 rcases hr with ⟨rfl, hnF⟩ | ⟨bk, rfl, hb⟩
 ·refine (pdigN_any l v w hv.sl (by omega) (hT.below hxw (Nat.le_refl _))).mono ?_
  rintro e w' ⟨rfl, hb⟩
  exact ⟨rfl, ⟨F, .inl ⟨rfl, hnF⟩, fun k hk => .inl hk⟩, Chg.of_below hb⟩
 ·refine (pdigB_any l v w x hb hn hv hG hp hT hxw hF).mono ?_
  rintro e w' ⟨rfl, ⟨F', h1, h2⟩, hc⟩
  exact ⟨rfl, ⟨F', .inr ⟨bk, rfl, h1⟩, h2⟩, hc⟩
def HideEnd (F : Foot) (bp : Value) (w : World) (l : List (BitVec 8)) (r : RefV) (n : Int) (ts : List (List (BitVec 8))) (e : Ending) (w' : World) : Prop :=
 ∃ v F', e = .returned (.tuple #[v, .agg (refC r), .int .i64 n]) ∧ SlB (fun k => w.heap.size ≤ k ∧ ¬ F' k) w' v l ∧ BkO F' bp w' ts ∧ (∀ k, F' k → F k ∨ w.heap.size ≤ k) ∧ Chg F w w'
def OpenEnd (F : Foot) (bp : Value) (w : World) (l : List (BitVec 8)) (n : Int) (ts : List (List (BitVec 8))) (e : Ending) (w' : World) : Prop :=
 ∃ v F', e = .returned (.tuple #[v, .int .i64 n]) ∧ SlB (fun k => w.heap.size ≤ k ∧ ¬ F' k) w' v l ∧ BkO F' bp w' ts ∧ (∀ k, F' k → F k ∨ w.heap.size ≤ k) ∧ Chg F w w'
theorem hide_end {F : Foot} {bp v3 : Value} {w w3 w4 : World} {g : Nat} {ts : List (List (BitVec 8))} {L : List (BitVec 8)} (hFl : ∀ k, F k → k < w.heap.size) (b3 : Below w.heap.size w w3) (hg : w.heap.size ≤ g) (hg3 : g < w3.heap.size) (hs : SlB (fun k => g < k) w3 v3 L) (hk : BkEnd F bp w3 ts w4) (M : Array Value) :
 ∃ F', SlB (fun k => w.heap.size ≤ k ∧ ¬ F' k) (w4.setRow g M) v3 L ∧ BkO F' bp (w4.setRow g M) ts ∧ (∀ k, F' k → F k ∨ w.heap.size ≤ k) ∧ Chg F w (w4.setRow g M) := by
 obtain ⟨⟨F', h1, h2⟩, hc⟩ := hk
 have hz := b3.size
 refine ⟨F', ?_, h1.keep (by simp) fun k hk _ => setRow_other w4 _ k M fun e => ?_, fun k hk => ?_, ?_⟩
 ·have s3 : SlB (fun k => g < k ∧ k < w3.heap.size) w3 v3 L := hs.mono fun k hk hlt => ⟨hk, hlt⟩
  have s4 : SlB (fun k => g < k ∧ k < w3.heap.size) w4 v3 L := s3.keep hc.size fun k hk hlt => hc.block k hlt fun hf => by have := hFl k hf; omega
  have s5 : SlB (fun k => g < k ∧ k < w3.heap.size) (w4.setRow g M) v3 L := s4.keep (by simp) fun k hk _ => setRow_other w4 _ k M (by omega)
  refine s5.mono fun k hk _ => ⟨by omega, fun hf => ?_⟩
  rcases h2 k hf with h | h
  ·have := hFl k h; omega
  ·omega
 ·subst e
  rcases h2 k hk with h | h
  ·have := hFl k h; omega
  ·omega
 ·rcases h2 k hk with h | h
  ·exact .inl h
  ·exact .inr (by omega)
 ·exact ((Chg.of_below b3).trans (F1 := F) hc fun x hx => .inl hx).trans (F1 := fun k => k = g) ⟨rfl, rfl, rfl, by simp, fun k _ hn => setRow_other w4 _ k M hn⟩ fun x hx => .inr (by omega)
theorem buildPf3 (p : Int) (e : BitVec 32) (dg : List (BitVec 8)) (h : dg.length = 32) (w : World) : (Instr.build 31 #[(0, .int .i64 p), (1, .int .u32 (V e)), (2, .agg (u8s dg).toArray)]).run Tryz.prog w = .ok (.agg (refC ⟨p, e, dg⟩)) w := by
 match dg, h with
 | [a0, a1, a2, a3, a4, a5, a6, a7, a8, a9, a10, a11, a12, a13, a14, a15, a16, a17, a18, a19, a20, a21, a22, a23, a24, a25, a26, a27, a28, a29, a30, a31], _ => exact run_build w _ _ _ (by kernel_rfl)
set_option maxRecDepth 100000 in
set_option maxHeartbeats 4000000 in
theorem phide_any {F : Foot} {bp : Value} {ts : List (List (BitVec 8))} (key : List (BitVec 8)) (lk : key.length = 32) (ep : BitVec 32) (place block : Int) (hbk : block ≤ 9223372036854775807) (page : List (BitVec 8)) (v : Value) (w x : World) (hr : BkO F bp w ts) (hn : ts.length < 100000) (hv : Sl w v page) (hp : page.length ≤ 1000000) (hT : Tabs x) (hC9 : CTabs x) (hxw : Below x.heap.size x w) (hF : ∀ k, F k → x.heap.size ≤ k) :
 Calls Tryz.prog 34 #[bp, .agg (u8s key).toArray, .int .u32 (V ep), .int .i64 place, .int .i64 block, v] w (HideEnd F bp w (hideR key ep place block page).1 (hideR key ep place block page).2.1 (hideR key ep place block page).2.2 (if (hideR key ep place block page).2.2 = 0 then ts ++ [(hideR key ep place block page).1] else ts)) := by
 have sl := fun wx (h : Below w.heap.size w wx) => pseal_any key lk ep block hbk page v wx (hv.below h) (by omega) (hC9.below (hxw.trans (h.mono hxw.size)) (Nat.le_refl _))
 have pl := fun wx => pisPlace_any place wx
 have flt := hr.lt
 obtain ⟨C, hC⟩ : ∃ C, C = (u8s key).toArray := ⟨_, rfl⟩
 have cs : C.size = 32 := by rw [hC]; simp [u8s_length, lk]
 rw [← hC] at sl ⊢
 obtain ⟨Z, hZ⟩ : ∃ Z, Z = refC zref := ⟨_, rfl⟩
 have zs : Z.size = 34 := by rw [hZ]; exact refC_size zref_wf
 have zo : Z.all (·.oneCell') = true := by rw [hZ]; exact refC_one _
 have hx : ∀ w, (zeroValue 31).run Tryz.prog w = .ok (.agg Z) w := by rw [hZ]; exact zeroRfP
 have bn : ∀ w, (Instr.build 31 #[]).run Tryz.prog w = .ok (.agg Z) w := by rw [hZ]; exact buildPf0
 have ak := (at_new w C 22).alloc (.cells Z 31)
 have az : At ((w.alloc (.cells C 22)).alloc (.cells Z 31)) (w.heap.size + 1) Z 31 := by
  have h := at_new (w.alloc (.cells C 22)) Z 31
  simpa using h
 have bz : Below w.heap.size w ((w.alloc (.cells C 22)).alloc (.cells Z 31)) := ((Below.refl _ _).alloc (Nat.le_refl _) _).alloc (by simp) _
 have wz : ((w.alloc (.cells C 22)).alloc (.cells Z 31)).heap.size = w.heap.size + 2 := by simp
 have BAD : Hid (∀ w' : World, Below w.heap.size w w' → HideEnd F bp w [] zref 1 ts (.returned (.tuple #[.slice none 0 0, .agg Z, .int .i64 1])) w') := zh fun w' hb => ⟨_, F, by rw [hZ], slB_nil _ _, hr.below hb, fun k hk => .inl hk, Chg.of_below hb⟩
 by_cases hpl : place < 0 ∨ 1 < place
 ·have e1 : hideR key ep place block page = ([], zref, 1) := by simp [hideR, hpl]
  rw [e1]
  have e2 : decide (place < 0 ∨ 1 < place) = true := by simp [hpl]
  rw [e2] at pl
  have PL := zh pl; have ZS := zh zs; have ZO := zh zo; have BN := zh bn; have AZ := zh az; have BZ := zh bz
  clear sl pl cs zs zo bn ak az bz wz hC hZ hpl e1 e2 hr hn hv hp hT hC9 hxw hF lk flt hbk
  show Calls _ _ _ _ (HideEnd F bp w [] zref 1 (if (1 : Int) = 0 then _ else ts))
  rw [if_neg (by decide)]
  go_enter Tryz.func34, Tryz.ntmps34
  go_upto_region 1 with fail
  clear hx
  generalize (w.alloc (.cells C 22)).alloc (.cells Z 31) = w1 at *
  go_wp2_with fail
  refine (PL.out _).mono ?_
  rintro e w2 ⟨rfl, hb2⟩
  have AZ2 := zh (AZ.out.below hb2 AZ.out.lt); have B2 := zh (BZ.out.trans (hb2.mono BZ.out.size))
  clear hb2 AZ BZ PL
  go_wp2_with (first
   | (refine Mem.wpList_build zr 31 _ #[] (.agg Z) zr (by simp) BN.out ?_)
   | (refine wpList_store_all zr 31 _ _ zr zr (w.heap.size + 1) Z zr zr (by rw [ZS.out]; exact infoRfP) Z 31 AZ2.out zr ZO.out ?_))
  try simp only [Exit.inBlock, Exit.then]
  refine ret_tmp_row_tmp zr (w.heap.size + 1) 31 Z _ (.slice none 0 0) (.int .i64 1) zr zr zr (AZ2.out.row Z) Tryz.underlying31 zr (by rw [ZS.out]; exact infoRfP) ?_
  exact BAD.out _ (below_row B2.out (Nat.le_succ _) Z)
 ·have e2 : decide (place < 0 ∨ 1 < place) = false := by simp [hpl]
  rw [e2] at pl
  by_cases hb : sealBad block page = true
  ·have e1 : hideR key ep place block page = ([], zref, 1) := by simp [hideR, hb]
   have e3 : sealR key ep block page = ([], 1) := by simp [sealR, hb]
   rw [e3] at sl
   rw [e1]
   have PL := zh pl; have SL := zh sl; have CS := zh cs; have ZS := zh zs; have ZO := zh zo; have BN := zh bn; have AK := zh ak; have AZ := zh az; have BZ := zh bz
   clear sl pl cs zs zo bn ak az bz wz hC hZ hpl e1 e2 e3 hb hr hn hv hp hT hC9 hxw hF lk flt hbk
   show Calls _ _ _ _ (HideEnd F bp w [] zref 1 (if (1 : Int) = 0 then _ else ts))
   rw [if_neg (by decide)]
   go_enter Tryz.func34, Tryz.ntmps34
   go_upto_region 1 with fail
   clear hx
   generalize (w.alloc (.cells C 22)).alloc (.cells Z 31) = w1 at *
   go_wp2_with fail
   refine (PL.out _).mono ?_
   rintro e w2 ⟨rfl, hb2⟩
   have AK2 := zh (AK.out.below hb2 AK.out.lt); have AZ2 := zh (AZ.out.below hb2 AZ.out.lt); have B2 := zh (BZ.out.trans (hb2.mono BZ.out.size))
   clear hb2 AZ AK BZ PL
   go_wp2_with (refine wpList_load_all zr 22 _ zr w.heap.size zr _ Tryz.underlying22 zr C _ AK2.out (by rw [CS.out]; exact infoDg) ?_)
   refine (SL.out w2 B2.out).mono ?_
   rintro e w3 ⟨v3, rfl, _, hb3⟩
   have AZ3 := zh (AZ2.out.below hb3 AZ2.out.lt); have B3 := zh (B2.out.trans (hb3.mono B2.out.size))
   clear hb3 AZ2 AK2 B2 SL
   go_wp2_with (first
    | (refine Mem.wpList_build zr 31 _ #[] (.agg Z) zr (by simp) BN.out ?_)
    | (refine wpList_store_all zr 31 _ _ zr zr (w.heap.size + 1) Z zr zr (by rw [ZS.out]; exact infoRfP) Z 31 AZ3.out zr ZO.out ?_))
   try simp only [Exit.inBlock, Exit.then]
   refine ret_tmp_row_tmp zr (w.heap.size + 1) 31 Z _ (.slice none 0 0) (.int .i64 1) zr zr zr (AZ3.out.row Z) Tryz.underlying31 zr (by rw [ZS.out]; exact infoRfP) ?_
   exact BAD.out _ (below_row B3.out (Nat.le_succ _) Z)
  ·clear BAD bn
   have e3 : sealR key ep block page = (sealL key ep block page, 0) := by simp [sealR, hb]
   rw [e3] at sl
   obtain ⟨L, hL⟩ : ∃ L, L = sealL key ep block page := ⟨_, rfl⟩
   rw [← hL] at sl
   have e1 : hideR key ep place block page = (L, ⟨place, ep, digestOf L⟩, 0) := by simp [hideR, hb, hpl, hL]
   rw [e1]
   have hln : L.length = 256 := by rw [hL, sealL_length]; simp [sealBad] at hb; omega
   have dg := fun (wx : World) (vx : Value) (h : Below w.heap.size w wx) (hs : SlB (fun k => w.heap.size ≤ k) wx vx L) => pdig_any L vx wx x (hr.below h) hn hs (fun k hk hf => by have := flt k hf; omega) (by omega) hT (hxw.trans (h.mono hxw.size)) hF
   obtain ⟨D, hD⟩ : ∃ D, D = (u8s (digestOf L)).toArray := ⟨_, rfl⟩
   have b3 : ∀ wx, (Instr.build 31 #[(0, .int .i64 place), (1, .int .u32 (V ep)), (2, .agg D)]).run Tryz.prog wx = .ok (.agg (refC ⟨place, ep, digestOf L⟩)) wx := fun wx => by rw [hD]; exact buildPf3 place ep (digestOf L) (digestOf_length _) wx
   rw [← hD] at dg
   obtain ⟨M, hM⟩ : ∃ M, M = refC ⟨place, ep, digestOf L⟩ := ⟨_, rfl⟩
   have ms : M.size = 34 := by rw [hM]; exact refC_size (wf_dig place ep L (by omega) (by omega))
   have mo : M.all (·.oneCell') = true := by rw [hM]; exact refC_one _
   rw [← hM] at b3
   have PL := zh pl; have SL := zh sl; have DG := zh dg; have B3 := zh b3; have HM := zh hM; have MS := zh ms; have MO := zh mo; have CS := zh cs; have ZS := zh zs; have AK := zh ak; have AZ := zh az; have BZ := zh bz; have WZ := zh wz; have FLT := zh flt; have LN := zh hln
   clear sl pl dg b3 hM ms mo cs zs zo ak az bz wz hC hZ hpl e1 e2 e3 hb hr hn hv hp hT hC9 hxw hF lk flt hD hln hbk hL
   show Calls _ _ _ _ (HideEnd F bp w L ⟨place, ep, digestOf L⟩ 0 (if (0 : Int) = 0 then ts ++ [L] else ts))
   rw [if_pos rfl]
   go_enter Tryz.func34, Tryz.ntmps34
   go_upto_region 1 with fail
   clear hx
   generalize (w.alloc (.cells C 22)).alloc (.cells Z 31) = w1 at *
   go_wp2_with fail
   refine (PL.out _).mono ?_
   rintro e w2 ⟨rfl, hb2⟩
   have AK2 := zh (AK.out.below hb2 AK.out.lt); have AZ2 := zh (AZ.out.below hb2 AZ.out.lt); have B2 := zh (BZ.out.trans (hb2.mono BZ.out.size)); have W2 : Hid (w.heap.size + 2 ≤ w2.heap.size) := zh (by rw [← WZ.out]; exact hb2.size)
   clear hb2 AZ AK BZ PL WZ
   go_wp2_with (refine wpList_load_all zr 22 _ zr w.heap.size zr _ Tryz.underlying22 zr C _ AK2.out (by rw [CS.out]; exact infoDg) ?_)
   refine (SL.out w2 B2.out).mono ?_
   rintro e w3 ⟨v3, rfl, hs3, hb3⟩
   have AZ3 := zh (AZ2.out.below hb3 AZ2.out.lt); have B4 := zh (B2.out.trans (hb3.mono B2.out.size)); have S3 : Hid (SlB (fun k => w.heap.size + 1 < k) w3 v3 L) := zh (hs3.mono fun k hk _ => by have := W2.out; omega); have W3 : Hid (w.heap.size + 2 ≤ w3.heap.size) := zh (Nat.le_trans W2.out hb3.size)
   clear hb3 hs3 AZ2 AK2 B2 SL W2
   go_wp2_with fail
   refine (DG.out w3 v3 B4.out (S3.out.mono fun k hk _ => by omega)).mono ?_
   rintro e w4 ⟨rfl, hk4⟩
   have AZ4 := zh (AZ3.out.chg hk4.2 fun hf => by have := FLT.out _ hf; omega)
   have HE := zh (hide_end FLT.out B4.out (Nat.le_succ _) (by have := W3.out; omega) S3.out hk4 M)
   clear hk4 AZ3 B4 S3 W3 DG
   go_wp2_with (first
    | (refine Mem.wpList_build zr 31 _ #[(0, .int .i64 place), (1, .int .u32 (V ep)), (2, .agg D)] (.agg M) zr (by simp [Act.eval]) B3.out ?_)
    | (refine wpList_store_all zr 31 _ _ zr zr (w.heap.size + 1) M zr zr (by rw [MS.out]; exact infoRfP) Z 31 AZ4.out (by rw [ZS.out, MS.out]) MO.out ?_))
   try simp only [Exit.inBlock, Exit.then]
   refine ret_tmp_row_tmp zr (w.heap.size + 1) 31 M _ v3 (.int .i64 0) zr zr zr (AZ4.out.row M) Tryz.underlying31 zr (by rw [MS.out]; exact infoRfP) ?_
   obtain ⟨F', h1, h2, h3, h4⟩ := HE.out
   exact ⟨_, F', by rw [HM.out], h1, h2, h3, h4⟩
set_option maxRecDepth 100000 in
set_option maxHeartbeats 4000000 in
theorem popen_any {F G : Foot} {bp : Value} {ts : List (List (BitVec 8))} (key : List (BitVec 8)) (lk : key.length = 32) (r : RefV) (hrw : r.Wf) (block : Int) (hbk : block ≤ 9223372036854775807) (l : List (BitVec 8)) (v : Value) (w x : World) (hr : BkO F bp w ts) (hn : ts.length < 100000) (hv : SlB G w v l) (hG : ∀ k, G k → ¬ F k) (hp : l.length ≤ 1000000) (hT : Tabs x) (hC9 : CTabs x) (hxw : Below x.heap.size x w) (hF : ∀ k, F k → x.heap.size ≤ k) :
 Calls Tryz.prog 57 #[bp, .agg (u8s key).toArray, .agg (refC r), .int .i64 block, v] w (OpenEnd F bp w (openR key r block l).1 (openR key r block l).2 (if sealBad block l then ts else ts ++ [l])) := by
 have ib := fun wx (h : Below w.heap.size w wx) => pisBlock_any block l v wx (hv.sl.below h)
 have flt := hr.lt
 have rs := refC_size hrw
 have r1 := ref1 r
 have rdg := ref_dgRow hrw
 obtain ⟨M, hM⟩ : ∃ M, M = refC r := ⟨_, rfl⟩
 rw [← hM] at rs r1 rdg ⊢
 obtain ⟨C, hC⟩ : ∃ C, C = (u8s key).toArray := ⟨_, rfl⟩
 have cs : C.size = 32 := by rw [hC]; simp [u8s_length, lk]
 have hCC := hC
 rw [← hC]
 have ak := (at_new w C 22).alloc (.cells M 31)
 have am : At ((w.alloc (.cells C 22)).alloc (.cells M 31)) (w.heap.size + 1) M 31 := by
  have h := at_new (w.alloc (.cells C 22)) M 31
  simpa using h
 have ba : Below w.heap.size w ((w.alloc (.cells C 22)).alloc (.cells M 31)) := ((Below.refl _ _).alloc (Nat.le_refl _) _).alloc (by simp) _
 have wz : ((w.alloc (.cells C 22)).alloc (.cells M 31)).heap.size = w.heap.size + 2 := by simp
 by_cases hb : sealBad block l = true
 ·have e1 : openR key r block l = ([], 1) := by simp [openR, hb]
  rw [e1, if_pos hb]
  rw [hb] at ib
  have BAD : Hid (∀ w' : World, Below w.heap.size w w' → OpenEnd F bp w [] 1 ts (.returned (.tuple #[.slice none 0 0, .int .i64 1])) w') := zh fun w' hb => ⟨_, F, rfl, slB_nil _ _, hr.below hb, fun k hk => .inl hk, Chg.of_below hb⟩
  have IB := zh ib; have BA := zh ba
  clear ib ba ak am wz cs rs r1 rdg hM hC hCC hb e1 hr hn hv hG hp hT hC9 hxw hF lk flt hbk hrw
  go_enter Tryz.func57, Tryz.ntmps57
  go_wp2_with fail
  refine (IB.out _ BA.out).mono ?_
  rintro e w2 ⟨rfl, hb2⟩
  have B2 := zh (BA.out.trans (hb2.mono BA.out.size))
  clear hb2 BA IB
  go_wp2_with fail
  go_ret2
  exact BAD.out _ B2.out
 ·have hb' : sealBad block l = false := by simpa using hb
  rw [if_neg hb]
  rw [hb'] at ib
  have h0 : 0 ≤ block := by simp [sealBad] at hb'; omega
  have dg := fun (wx : World) (h : Below w.heap.size w wx) => pdig_any l v wx x (hr.below h) hn (hv.keep h.size fun k _ hlt => h.block k hlt) hG hp hT (hxw.trans (h.mono hxw.size)) hF
  have hne := fun (x y : Operand) wx => neqDg (digestOf l) r.dg (digestOf_length l) hrw.dg x y wx
  obtain ⟨D, hD⟩ : ∃ D, D = (u8s (digestOf l)).toArray := ⟨_, rfl⟩
  obtain ⟨E, hE⟩ : ∃ E, E = (u8s r.dg).toArray := ⟨_, rfl⟩
  rw [← hD] at dg
  rw [← hD, ← hE] at hne
  rw [← hE] at rdg
  by_cases h3 : digestOf l = r.dg
  ·have e1 : openR key r block l = (sealL key r.ep block l, 0) := by simp [openR, hb', h3]
   rw [e1]
   have hq : (!(digestOf l == r.dg)) = false := by simp [h3]
   rw [hq] at hne
   obtain ⟨ep, hep⟩ : ∃ ep, ep = r.ep := ⟨_, rfl⟩
   rw [← hep] at r1 ⊢
   have tn := fun wx (h : SlB G wx v l) (ht : CTabs wx) => pturn_any key lk ep block h0 hbk l v wx h.sl (by omega) ht
   rw [← hCC] at tn
   obtain ⟨L, hL⟩ : ∃ L, L = sealL key ep block l := ⟨_, rfl⟩
   rw [← hL] at tn ⊢
   have IB := zh ib; have BA := zh ba; have DG := zh dg; have NE := zh hne; have TN := zh tn; have RS := zh rs; have R1 := zh r1; have RDG := zh rdg; have CS := zh cs; have AK := zh ak; have AM := zh am; have WZ := zh wz; have FLT := zh flt; have HV := zh hv; have HG := zh hG; have HT := zh hC9; have HX := zh hxw; have HF := zh hF
   clear ib ba dg hne tn rs r1 rdg cs ak am wz flt hv hG hT hC9 hxw hF hM hC hCC hb hb' e1 hr hn hp lk hbk hrw hD hE hL h3 hq hep h0
   go_enter Tryz.func57, Tryz.ntmps57
   go_wp2_with fail
   obtain ⟨b1, hb1⟩ : ∃ b1, b1 = w.heap.size := ⟨_, rfl⟩
   refine (IB.out _ BA.out).mono ?_
   rintro e w2 ⟨rfl, hb2⟩
   have AK2 := zh (AK.out.below hb2 AK.out.lt); have AM2 := zh (AM.out.below hb2 AM.out.lt); have B2 := zh (BA.out.trans (hb2.mono BA.out.size)); have W2 : Hid (w.heap.size + 2 ≤ w2.heap.size) := zh (by rw [← WZ.out]; exact hb2.size)
   clear hb2 BA IB AK AM WZ
   rw [← hb1] at AK2 AM2
   go_wp2_with fail
   rw [← hb1]
   have M2 : Hid (At w2.drew (b1 + 1) M 31) := AM2
   refine wp_region_plan_in (fun y => At y (b1 + 1) M 31) (.take 0 (.take 1 (.take 3 (.take 4 (.sole 2 (.take 5 .done)))))) (by kernel_rfl) (by kernel_rfl) (by kernel_rfl) M2.out ?_
   (first | refine Mem.pm1 ?_ | refine Mem.pm2 ?_ | refine Mem.pt ?_ | refine Mem.pf ?_)
   (simp only [Act.put, Mem.pa, Mem.pb, Mem.pc])
   (first | refine Mem.pm1 ?_ | refine Mem.pm2 ?_ | refine Mem.pt ?_ | refine Mem.pf ?_)
   (simp only [Act.put, Mem.pa, Mem.pb, Mem.pc])
   refine plan_field 31 _ 2 (b1 + 1) 0 ⟨b1 + 1, 2, none⟩ (by rfl) (by rfl) (by rfl) Mem.ev_a (fun wx => by go_simp) ?_
   (simp only [Act.put, Mem.pa, Mem.pb, Mem.pc])
   refine plan_row_at 22 _ (b1 + 1) 2 32 _ M E 31 (by rfl) (by rfl) (by rfl) Mem.ev_a (fun w' hw' => hw') Tryz.underlying22 zr infoDg (by rw [RS.out]; decide) RDG.out ?_
   (simp only [Act.put, Mem.pa, Mem.pb, Mem.pc])
   refine plan_call 65 _ _ _ (by kernel_rfl) (by rfl) (by rfl) (by rfl) (by first | exact Mem.ev_none _ | (simp only [List.map_toArray, List.map_cons, List.map_nil, Mem.ev_tmp, List.getD_cons_succ, List.getD_cons_zero] <;> rfl)) ?_
   refine (DG.out w2.drew B2.out.drew).mono ?_
   rintro o3 w3 ⟨rfl, hk3⟩
   have nF : ∀ k, b1 ≤ k → ¬ F k := fun k hk hf => by have := FLT.out k hf; omega
   have AK3 := zh ((AK2.out.drew).chg hk3.2 (nF _ (Nat.le_refl _))); have AM3 := zh ((AM2.out.drew).chg hk3.2 (nF _ (Nat.le_succ _))); have K3 := zh hk3
   have HV3 : Hid (SlB G w3 v l) := zh ((HV.out.keep B2.out.size fun k _ hlt => B2.out.block k hlt).keep hk3.2.size fun k hg hlt => hk3.2.block k hlt (HG.out k hg))
   clear hk3 nF
   refine ⟨_, rfl, AM3.out, ?_⟩
   (simp only [Act.put, Mem.pa, Mem.pb, Mem.pc])
   refine plan_bin _ _ _ _ _ _ _ (.bool false) (by rfl) (by rfl) (by rfl) Mem.ev_a Mem.ev_a (fun wx => NE.out _ _ wx) ?_
   (simp only [Act.put, Mem.pa, Mem.pb, Mem.pc])
   refine plan_nil ?_
   have f1 : w3.cell? ⟨b1 + 1, 1, none⟩ = some (.int .u32 (V ep)) := (AM3.out.cell 1).trans R1.out
   rw [hb1] at f1
   have T3 : Hid (CTabs w3) := zh (HT.out.below (K3.out.2.below (HX.out.trans ((B2.out.drew).mono HX.out.size)) HF.out (Nat.le_trans HX.out.size B2.out.size)) (Nat.le_refl _))
   clear AK2 AM2 M2
   go_wp2_with (refine wpList_load_all zr 22 _ zr b1 (by rw [hb1]; rfl) _ Tryz.underlying22 zr C _ AK3.out (by rw [CS.out]; exact infoDg) ?_)
   refine (TN.out w3 HV3.out T3.out).mono ?_
   rintro e w4 ⟨v4, rfl, hs4, hb4⟩
   have S4 := zh hs4; have B4 := zh hb4
   clear hs4 hb4 f1
   go_wp2_with fail
   go_ret2
   obtain ⟨⟨F', h1, h2⟩, hc⟩ := K3.out
   have hz := B2.out.size
   have hz3 := hc.size
   refine ⟨_, F', rfl, S4.out.mono fun k hk _ => ⟨?_, fun hf => ?_⟩, h1.below B4.out, fun k hk => ?_, ?_⟩
   ·exact Nat.le_trans hz (Nat.le_trans hz3 hk)
   ·have := h1.lt k hf; omega
   ·rcases h2 k hk with g | g
    ·exact .inl g
    ·exact .inr (Nat.le_trans hz g)
   ·exact (((Chg.of_below B2.out).drew).trans (F1 := F) hc fun _ hx => .inl hx).trans (F1 := F) (Chg.of_below B4.out) fun _ hx => .inl hx
  ·have e1 : openR key r block l = ([], 9) := by simp [openR, hb', h3]
   rw [e1]
   have hq : (!(digestOf l == r.dg)) = true := by simp [h3]
   rw [hq] at hne
   have IB := zh ib; have BA := zh ba; have DG := zh dg; have NE := zh hne; have RS := zh rs; have RDG := zh rdg; have AM := zh am; have FLT := zh flt
   clear ib ba dg hne rs r1 rdg cs ak am wz flt hv hG hT hC9 hxw hF hM hC hCC hb hb' e1 hr hn hp lk hbk hrw hD hE h3 hq h0
   go_enter Tryz.func57, Tryz.ntmps57
   go_wp2_with fail
   obtain ⟨b1, hb1⟩ : ∃ b1, b1 = w.heap.size := ⟨_, rfl⟩
   refine (IB.out _ BA.out).mono ?_
   rintro e w2 ⟨rfl, hb2⟩
   have AM2 := zh (AM.out.below hb2 AM.out.lt); have B2 := zh (BA.out.trans (hb2.mono BA.out.size))
   clear hb2 BA IB AM
   rw [← hb1] at AM2
   go_wp2_with fail
   rw [← hb1]
   have M2 : Hid (At w2.drew (b1 + 1) M 31) := AM2
   refine wp_region_plan_in (fun y => At y (b1 + 1) M 31) (.take 0 (.take 1 (.take 3 (.take 4 (.sole 2 (.take 5 .done)))))) (by kernel_rfl) (by kernel_rfl) (by kernel_rfl) M2.out ?_
   (first | refine Mem.pm1 ?_ | refine Mem.pm2 ?_ | refine Mem.pt ?_ | refine Mem.pf ?_)
   (simp only [Act.put, Mem.pa, Mem.pb, Mem.pc])
   (first | refine Mem.pm1 ?_ | refine Mem.pm2 ?_ | refine Mem.pt ?_ | refine Mem.pf ?_)
   (simp only [Act.put, Mem.pa, Mem.pb, Mem.pc])
   refine plan_field 31 _ 2 (b1 + 1) 0 ⟨b1 + 1, 2, none⟩ (by rfl) (by rfl) (by rfl) Mem.ev_a (fun wx => by go_simp) ?_
   (simp only [Act.put, Mem.pa, Mem.pb, Mem.pc])
   refine plan_row_at 22 _ (b1 + 1) 2 32 _ M E 31 (by rfl) (by rfl) (by rfl) Mem.ev_a (fun w' hw' => hw') Tryz.underlying22 zr infoDg (by rw [RS.out]; decide) RDG.out ?_
   (simp only [Act.put, Mem.pa, Mem.pb, Mem.pc])
   refine plan_call 65 _ _ _ (by kernel_rfl) (by rfl) (by rfl) (by rfl) (by first | exact Mem.ev_none _ | (simp only [List.map_toArray, List.map_cons, List.map_nil, Mem.ev_tmp, List.getD_cons_succ, List.getD_cons_zero] <;> rfl)) ?_
   refine (DG.out w2.drew B2.out.drew).mono ?_
   rintro o3 w3 ⟨rfl, hk3⟩
   have nF : ∀ k, b1 ≤ k → ¬ F k := fun k hk hf => by have := FLT.out k hf; omega
   have AM3 := zh ((AM2.out.drew).chg hk3.2 (nF _ (Nat.le_succ _))); have K3 := zh hk3
   clear hk3 nF
   refine ⟨_, rfl, AM3.out, ?_⟩
   (simp only [Act.put, Mem.pa, Mem.pb, Mem.pc])
   refine plan_bin _ _ _ _ _ _ _ (.bool true) (by rfl) (by rfl) (by rfl) Mem.ev_a Mem.ev_a (fun wx => NE.out _ _ wx) ?_
   (simp only [Act.put, Mem.pa, Mem.pb, Mem.pc])
   refine plan_nil ?_
   clear AM2 M2
   go_wp2_with fail
   go_ret2
   obtain ⟨⟨F', h1, h2⟩, hc⟩ := K3.out
   have hz := B2.out.size
   refine ⟨_, F', rfl, slB_nil _ _, h1, fun k hk => ?_, ?_⟩
   ·rcases h2 k hk with g | g
    ·exact .inl g
    ·exact .inr (Nat.le_trans hz g)
   ·exact ((Chg.of_below B2.out).drew).trans (F1 := F) hc fun _ hx => .inl hx
end Sha
end Go.Proofs.YtajdpbbbocnfiaaGreatDoor
