/- Layer 7, AnchorRegisters: a register has what was set last, and tells all epochs that were set; what it tells may be written over; one that is nil has nothing. -/
import Derived.Test.YtknaimpnkflfnaaRegInv
import Derived.Test.YtknaimpnkflfnaaInc
import Derived.Test.YtknaimpnkflfnaaLs
import Derived.Test.YtknaimpnkflfnaaAncBack
import Derived.Deep.DeepCutAuto
namespace Go.Proofs.Ytknaimpnkflfnaa
namespace Sha
open Go.RowKit Mem
set_option maxRecDepth 100000 in
set_option maxHeartbeats 16000000 in
theorem regs7_law (l : List Anc) (vl : Value) (w : World) (hl : SlA w vl l) (ll : l.length ≤ 9223372036854775807) (hw : ∀ x ∈ l, x.Wf) : Calls Try.prog 6 #[vl] w fun e w' => e = .returned (.bool true) ∧ Below w.heap.size w w' := by
  have hl0 := hl
  obtain ⟨al, capl, rfl, _, _⟩ := hl
  obtain ⟨n, hn⟩ : ∃ n, n = l.length := ⟨_, rfl⟩
  rw [← hn] at hl0 ll ⊢
  obtain ⟨Z, hZ⟩ : ∃ Z, Z = ancC zanc := ⟨_, rfl⟩
  have zs : Z.size = 71 := by rw [hZ]; exact ancC_size zanc_wf
  have zo : Z.all (·.oneCell') = true := by rw [hZ]; exact ancC_one _
  have hx : ∀ w, (zeroValue 31).run Try.prog w = .ok (.agg Z) w := by rw [hZ]; exact zeroAncP
  have hx2 : ∀ w, (zeroValue 26).run Try.prog w = .ok (.agg Z) w := by rw [hZ]; exact zeroAncR
  have bn : ∀ w, (Instr.build 31 #[]).run Try.prog w = .ok (.agg Z) w := by rw [hZ]; exact buildP0
  have ng := fun wx => nget_any wx
  have ns := fun wx => nset_any Z wx
  have hneq := fun x y (wx : World) => neqP zanc_wf zanc_wf x y wx
  rw [sameA_self, ← hZ] at hneq
  rw [← hZ] at ng
  have ZS := Lib.hid zs; have ZO := Lib.hid zo; have HX := Lib.hid hx; have HX2 := Lib.hid hx2; have BN := Lib.hid bn; have NG := Lib.hid ng; have NS := Lib.hid ns; have NEZ := Lib.hid hneq; have HL := Lib.hid hl0; have HN := Lib.hid hn; have HW := Lib.hid hw; have AL := Lib.hid (fun wx => alive7_any wx); have HZ := Lib.hid hZ
  clear zs zo hx2 bn ng ns hneq hl0 hn hw hZ
  go_enter Try.func6, Try.ntmps6
  go_wp2_with fail
  refine (NG.out w).mono ?_
  rintro e w1 ⟨rfl, hb1⟩
  have b2 : Below w.heap.size w (w1.alloc (.cells Z 31)) := hb1.alloc hb1.size _
  have B2 := Lib.hid b2; have A2 := Lib.hid (at_new w1 Z 31)
  clear hb1 b2
  go_wp2_with (first
    | (refine wpList_store_new (by rfl) 31 _ _ (by rfl) (by rfl) Z _ _ (by rfl) (by rfl) (by rw [ZS.out]; exact infoAncP) (by rfl) ZO.out ?_; clear hx; generalize w1.alloc (.cells Z 31) = w2 at *; generalize w1.heap.size = b4 at *)
    | (refine wpList_load_wanted (by rfl) 31 _ (by rfl) b4 (by rfl) _ Try.underlying31 (by rfl) Z _ A2.out (by rw [ZS.out]; exact infoAncP) ?_)
    | (refine Mem.wpList_build (by rfl) 31 _ #[] (.agg Z) (by rfl) (by simp) BN.out ?_)
    | (refine wpList_bin (by rfl) .neq 31 31 _ _ (.agg Z) (.agg Z) (.bool false) (by rfl) (by rfl) (by rfl) (fun wx => NEZ.out _ _ wx) ?_))
  refine (NS.out w2).mono ?_
  rintro e w3 ⟨rfl, hb3⟩
  have B3 := Lib.hid (B2.out.trans (hb3.mono B2.out.size))
  clear hb3 A2 B2
  go_wp2_with fail
  refine (nraw_any w3).mono ?_
  rintro e w' ⟨rfl, rfl⟩
  go_wp2_with fail
  refine (ncount_any w3).mono ?_
  rintro e w' ⟨rfl, rfl⟩
  go_wp2_with fail
  refine (nepochs_any w3).mono ?_
  rintro e w' ⟨rfl, rfl⟩
  go_wp2_with fail
  refine (pnew_any w3).mono ?_
  rintro e w4 ⟨r, rfl, hr, hr0, hb4⟩
  have R4 := Lib.hid hr; have R0 := Lib.hid hr0; have B4 := Lib.hid hb4
  clear hr hr0 hb4
  by_cases hbig : 60 < n
  · have g1 : (60 : Int) < (n : Int) := by omega
    have B5 : Hid (Below w.heap.size w (w4.alloc (.cells #[.slice none 0 0, .slice none 0 0] 56))) := (B3.out.trans (B4.out.mono B3.out.size)).alloc (Nat.le_trans B3.out.size B4.out.size) _
    go_wp2_with fail
    refine (AL.out _).mono ?_
    rintro e w6 ⟨rfl, hb6⟩
    have B6 := Lib.hid (B5.out.trans (hb6.mono B5.out.size))
    clear hb6
    go_wp2_with fail
    go_ret
    exact ⟨rfl, B6.out⟩
  have g1 : ¬ (60 : Int) < (n : Int) := by omega
  have hx := HX.out
  have az := at_new w4 (rgRow (.slice none 0 0) (.slice none 0 0)) 56
  unfold rgRow at az
  have bz : Below w4.heap.size w4 (w4.alloc (.cells #[.slice none 0 0, .slice none 0 0] 56)) := (Below.refl _ _).alloc (Nat.le_refl _) _
  obtain ⟨w5, hw5⟩ : ∃ q, q = w4.alloc (.cells #[.slice none 0 0, .slice none 0 0] 56) := ⟨_, rfl⟩
  rw [← hw5] at az bz
  have a9 := at_new w5 Z 31
  have b9' : Below w5.heap.size w5 (w5.alloc (.cells Z 31)) := (Below.refl _ _).alloc (Nat.le_refl _) _
  have i0 : RInv w3 r w4.heap.size (fun k => k = w5.heap.size) none [] none [] [] (.slice none 0 0) (w5.alloc (.cells Z 31)) := rinv_start R4.out R0.out B4.out (PReg.new az) bz (Nat.le_refl _) b9' (Nat.le_refl _) a9.lt
  have n9 : w3.heap.size ≤ w5.heap.size := Nat.le_trans B4.out.size bz.size
  have I0 := Lib.hid i0; have A9 := Lib.hid a9; have N9 := Lib.hid n9
  clear az bz a9 b9' i0 n9 R4 R0 B4
  go_upto_region 10 with fail
  rw [← hw5]
  clear hw5
  go_wp2_with (first
    | (refine Mem.wpList_build (by rfl) 31 _ #[] (.agg Z) (by rfl) (by simp) BN.out ?_)
    | (refine wpList_store_new (by rfl) 31 _ _ (by rfl) (by rfl) Z _ _ (by rfl) (by rfl) (by rw [ZS.out]; exact infoAncP) (by rfl) ZO.out ?_; clear hx; generalize w5.alloc (.cells Z 31) = w6 at *))
  obtain ⟨w0, hw0⟩ : ∃ q, q = w3 := ⟨_, rfl⟩
  obtain ⟨z, hz⟩ : ∃ q, q = w4.heap.size := ⟨_, rfl⟩
  obtain ⟨b9, hb9⟩ : ∃ q, q = w5.heap.size := ⟨_, rfl⟩
  rw [← hw0, ← hz, ← hb9] at I0
  rw [← hw0] at B3
  rw [← hb9] at A9
  rw [← hw0, ← hb9] at N9
  rw [← hz, ← hb9]
  clear hw0 hz hb9
  go_loopw [8, 10, 69] (fun vw th i wr => ∃ j : Nat, j ≤ n ∧ i = .int .i64 j ∧ ∃ (o : Option Anc) (es : List Nat) (aw : Option Addr) (cw : Nat), vw = .slice aw es.length cw ∧ th = .bool o.isSome ∧ es.length ≤ j ∧ RInv w0 r z (fun k => k = b9) o es o es es (.slice aw es.length cw) wr ∧ At wr b9 (ancC (lastA o)) 31) (fun _ _ i _ => n - (intOf i).toNat)
  case atStart => exact ⟨0, by omega, rfl, none, [], none, 0, rfl, rfl, by simp, I0.out, by rw [show ancC (lastA none) = Z from HZ.out.symm]; exact A9.out⟩
  case round =>
    clear I0 A9
    obtain ⟨j, hj, rfl, o, es, aw, cw, rfl, rfl, hes, hI, hLA⟩ := hrel
    by_cases hlt : j < n
    · have hlt' : (j : Int) < (n : Int) := by omega
      obtain ⟨bl, ol, ea, hra⟩ := slA_at (i := j) (HL.out.below (B3.out.trans (hI.base.mono B3.out.size))) HW.out (by rw [← HN.out]; exact hlt)
      have hxw : (l.getD j zanc).Wf := by
        have hjl : j < l.length := by rw [← HN.out]; exact hlt
        rw [List.getD_eq_getElem?_getD, List.getElem?_eq_getElem hjl]; exact HW.out _ (List.getElem_mem hjl)
      obtain ⟨x, hxe⟩ : ∃ q, q = l.getD j zanc := ⟨_, rfl⟩
      rw [← hxe] at hra hxw
      obtain ⟨ln, hln⟩ : ∃ q, q = es.length := ⟨_, rfl⟩
      have hth := fun wx => theirs_any x hxw wx
      have hrm := fun wx => rmay_any x hxw wx
      have ce := anc2 x
      obtain ⟨ep, hep⟩ : ∃ q, q = x.epoch := ⟨_, rfl⟩
      rw [← hep] at ce
      obtain ⟨M, hM⟩ : ∃ q, q = ancC x := ⟨_, rfl⟩
      have ms : M.size = 71 := by rw [hM]; exact ancC_size hxw
      have mo : M.all (·.oneCell') = true := by rw [hM]; exact ancC_one _
      have hra2 : wr.rangeAt bl (ol + j * 71) M.toList := by rw [hM]; exact hra
      have hset : ∀ (F : Foot) (br : Nat) (wx : World) (o1 : Option Anc) (e1 : List Nat), PReg F br wx o1 e1 → e1.length ≤ 1000 → Calls Try.prog 18 #[rr br, .agg M] wx fun e w' => e = .returned (.int .i64 (layE x)) ∧ RgEnd F br wx (stepO o1 x) (stepE e1 x) w' := fun F br wx o1 e1 h hl => by rw [hM]; exact pset_any h x hxw hl
      have hcs : ∀ {m : Bool}, mayA x = m → layE x = (if m then 0 else 1) ∧ (∀ o1 : Option Anc, stepO o1 x = if m then some x else o1) ∧ ∀ e1 : List Nat, stepE e1 x = if m then e1 ++ [x.epoch] else e1 := fun {m} hm => by unfold layE stepO stepE; rw [hm]; exact ⟨rfl, fun _ => rfl, fun _ => rfl⟩
      rw [← hM] at hth hrm ce
      have oko := hI.ok1
      rw [← hln] at hes hI
      have ax := at_new wr M 26
      have bx1 : Below wr.heap.size wr (wr.alloc (.cells M 26)) := (Below.refl _ _).alloc (Nat.le_refl _) _
      have i1 := hI.protect bx1 (Nat.le_refl _) ax.lt
      have TH := Lib.hid hth; have RM := Lib.hid hrm; have CE := Lib.hid ce; have MS := Lib.hid ms; have MO := Lib.hid mo; have RA := Lib.hid hra2; have SET := Lib.hid hset; have OKO := Lib.hid oko; have HLN := Lib.hid hln; have HEP := Lib.hid hep; have HM := Lib.hid hM; have X1 := Lib.hid ax; have I1 := Lib.hid i1; have LA1 := Lib.hid (hLA.below bx1 hLA.lt); have HJ := Lib.hid hes
      have HT : Hid (mayA x = true → layE x = 0 ∧ (∀ o1 : Option Anc, stepO o1 x = some x) ∧ ∀ e1 : List Nat, stepE e1 x = e1 ++ [x.epoch]) := fun h => hcs h
      have HF : Hid (mayA x = false → layE x = 1 ∧ (∀ o1 : Option Anc, stepO o1 x = o1) ∧ ∀ e1 : List Nat, stepE e1 x = e1) := fun h => hcs h
      subst ea
      have hes60 : ln ≤ 60 := by omega
      clear hth hrm ce ms mo hra hra2 hset oko hep hM ax bx1 i1 hI hxw hxe hes hLA hcs
      have hx := HX2.out
      rw [← hln]
      clear hln
      go_wp2_with (first
        | (refine wpList_load_mid (by rfl) 26 _ (by rfl) bl (ol + j * 71) (by rfl) M.toList _ RA.out Try.underlying26 (by rfl) (by rw [Array.length_toList, MS.out]; exact infoAncR) ?_; rw [Array.toArray_toList])
        | (refine wpList_store_new (by rfl) 26 _ _ (by rfl) (by rfl) M _ _ (by rfl) (by rfl) (by rw [MS.out]; exact infoAncR) (by rw [MS.out, ZS.out]) MO.out ?_; clear hx; generalize wr.alloc (.cells M 26) = w1 at *; generalize wr.heap.size = bx at *)
        | (refine wpList_load_all (by rfl) 26 _ (by rfl) bx (by rfl) _ Try.underlying26 (by rfl) M _ X1.out (by rw [MS.out]; exact infoAncR) ?_))
      refine (TH.out w1).mono ?_
      rintro e w2 ⟨rfl, hb2⟩
      have I2 := Lib.hid (I1.out.below hb2); have X2 := Lib.hid (X1.out.below hb2 X1.out.lt); have LA2 := Lib.hid (LA1.out.below hb2 LA1.out.lt)
      clear hb2 I1 X1 LA1
      obtain ⟨F1, f1, fin1⟩ := I2.out.set1
      go_wp2_with fail
      refine (SET.out F1 r w2 o es f1 (by rw [← HLN.out]; omega)).mono ?_
      rintro e w3 ⟨rfl, hend⟩
      obtain ⟨i3, same3⟩ := fin1 _ _ _ hend
      have I3 := Lib.hid i3; have X3 := Lib.hid (at_same X2.out (same3 bx (.inr rfl))); have LA3 := Lib.hid (at_same LA2.out (same3 b9 (.inl rfl)))
      clear i3 same3 hend fin1 f1 I2 X2 LA2
      by_cases hm : mayA x = true
      · have HC := HT
        clear HT HF
        obtain ⟨e0, s0, s1⟩ := HC.out hm
        rw [e0]
        rw [s0, s1] at I3
        have RM2 : Hid (∀ wx, Calls Try.prog 12 #[.agg M] wx fun e w' => e = .returned (.bool true) ∧ Below wx.heap.size wx w') := fun wx => by have h := RM.out wx; rw [hm] at h; exact h
        have SE2 : Hid (∀ (F : Foot) (wx : World), PReg F z wx o es → Calls Try.prog 18 #[rr z, .agg M] wx fun e w' => e = .returned (.int .i64 0) ∧ RgEnd F z wx (some x) (es ++ [x.epoch]) w') := fun F wx h => by have k := SET.out F z wx o es h (by rw [← HLN.out]; omega); rw [e0, s0, s1] at k; exact k
        clear e0 s0 s1 hm HC RM SET
        go_wp2_with (refine wpList_load_all (by rfl) 26 _ (by rfl) bx (by rfl) _ Try.underlying26 (by rfl) M _ X3.out (by rw [MS.out]; exact infoAncR) ?_)
        refine (RM2.out w3).mono ?_
        rintro e w4 ⟨rfl, hb4⟩
        have I4 := Lib.hid (I3.out.below hb4); have X4 := Lib.hid (X3.out.below hb4 X3.out.lt); have LA4 := Lib.hid (LA3.out.below hb4 LA3.out.lt)
        clear hb4 I3 X3 LA3 RM2
        go_wp2_with (refine wpList_load_wanted (by rfl) 26 _ (by rfl) bx (by rfl) _ Try.underlying26 (by rfl) M _ X4.out (by rw [MS.out]; exact infoAncR) ?_)
        refine (TH.out w4).mono ?_
        rintro e w5 ⟨rfl, hb5⟩
        have I5 := Lib.hid (I4.out.below hb5); have X5 := Lib.hid (X4.out.below hb5 X4.out.lt); have LA5 := Lib.hid (LA4.out.below hb5 LA4.out.lt)
        clear hb5 I4 X4 LA4
        obtain ⟨F2, f2, fin2⟩ := I5.out.set2
        go_wp2_with fail
        refine (SE2.out F2 w5 f2).mono ?_
        rintro e w6 ⟨rfl, hend⟩
        obtain ⟨i6, same6⟩ := fin2 _ _ _ hend
        have I6 := Lib.hid i6; have X6 := Lib.hid (at_same X5.out (same6 bx (.inr rfl))); have LA6 := Lib.hid (at_same LA5.out (same6 b9 (.inl rfl)))
        clear i6 same6 hend fin2 f2 I5 X5 LA5 SE2
        have cE : w6.cell? ⟨bx, 2, none⟩ = some (.int .u32 (ep : Int)) := (X6.out.cell 2).trans CE.out
        have al : Below w6.heap.size w6 (w6.alloc (.cells #[.int .u32 (ep : Int)] 22)) := (Below.refl _ _).alloc (Nat.le_refl _) _
        have I7 := Lib.hid (I6.out.below al); have X7 := Lib.hid (X6.out.below al X6.out.lt); have LA7 := Lib.hid (LA6.out.below al LA6.out.lt)
        have RD7 : Hid (RdR (w6.alloc (.cells #[.int .u32 (ep : Int)] 22)) 1 (.slice (some ⟨w6.heap.size, 0, none⟩) 1 1) 1 [.int .u32 (ep : Int)]) := rdR_new (w := w6) (e := 22) (C := #[.int .u32 (ep : Int)])
        have OW7 := I7.out.own
        rw [← HLN.out] at OW7
        have OV7 := Lib.hid OW7
        have AB7 : Hid (w0.heap.size ≤ (w6.alloc (.cells #[.int .u32 (ep : Int)] 22)).heap.size) := I7.out.base.size
        clear al OW7 I6 X6 LA6
        go_wp2_with (first
          | (at_builtin; refine wpList_append_app (by rfl) _ _ 52 (by rfl) (.slice (some ⟨w6.heap.size, 0, none⟩) 1 1) ln 1 1 [.int .u32 (ep : Int)] (.int .u32 0) 4 elemU32 (by rfl) (by decide) (by rfl) OV7.out (by rfl) RD7.out (by simp [Value.oneCell']) (by omega) (by omega) AB7.out ?_; intro v8 w8 ho8 hap8 hb8; have J8 := Lib.hid (I7.out.app (e3' := es ++ [x.epoch]) hap8 hb8 (by rw [List.length_append, List.length_singleton, ← u32n_snoc, ← HLN.out, ← HEP.out]; exact ho8)); have X8 := Lib.hid (at_same X7.out (J8.out.2 bx (.inr rfl))); have LA8 := Lib.hid (at_same LA7.out (J8.out.2 b9 (.inl rfl))); clear ho8 hap8 hb8 cE)
          | (refine wpList_load_all (by rfl) 26 _ (by rfl) bx (by rfl) _ Try.underlying26 (by rfl) M _ X8.out (by rw [MS.out]; exact infoAncR) ?_))
        refine (TH.out w8).mono ?_
        rintro e w9 ⟨rfl, hb9⟩
        have I9 := Lib.hid (J8.out.1.below hb9); have LA9 := Lib.hid (LA8.out.below hb9 LA8.out.lt)
        clear hb9 J8 X8 LA8 I7 X7 LA7 RD7 OV7 AB7
        obtain ⟨a8, c8, e8⟩ := rows_hd I9.out.own
        obtain ⟨N, hN⟩ : ∃ q, q = (es ++ [x.epoch]).length := ⟨_, rfl⟩
        rw [← hN] at e8
        subst e8
        have HN0 := Lib.hid hN
        clear hN
        obtain ⟨ML, hML⟩ : ∃ ML, ML = ancC (lastA o) := ⟨_, rfl⟩
        have mls : ML.size = 71 := by rw [hML]; exact ancC_size (lastA_wf OKO.out)
        rw [← hML] at LA9
        have MLS := Lib.hid mls
        clear mls hML
        go_wp2_with (refine wpList_store_all (by rfl) 31 _ _ (by rfl) (by rfl) b9 M (by rfl) (by rfl) (by rw [MS.out]; exact infoAncP) ML 31 LA9.out (by rw [MS.out, MLS.out]) MO.out ?_; have IA : Hid (RInv w0 r z (fun k => k = b9 ∨ k = bx) (some x) (es ++ [x.epoch]) (some x) (es ++ [x.epoch]) (es ++ [x.epoch]) (.slice a8 N c8) (w9.setRow b9 M)) := I9.out.last (bx := b9) (.inl rfl) N9.out (fun k hk => setRow_other w9 b9 k _ hk) (fun B q hb hB => below_row hb hB _); have LAA : Hid (At (w9.setRow b9 M) b9 (ancC (lastA (some x))) 31) := (by rw [show ancC (lastA (some x)) = M from HM.out.symm]; exact LA9.out.row M); clear LA9 MLS I9; generalize w9.setRow b9 M = w10 at *)
        obtain ⟨en, hen⟩ : ∃ q, q = (es ++ [x.epoch]) := ⟨_, rfl⟩
        obtain ⟨on, hon⟩ : ∃ q : Option Anc, q = (some x) := ⟨_, rfl⟩
        have EN : Hid (N ≤ j + 1) := by show N ≤ j + 1; rw [HN0.out]; rw [List.length_append, List.length_singleton, ← HLN.out]; have := HJ.out; omega
        rw [← hon, ← hen] at IA
        rw [← hon] at LAA
        rw [← hen] at HN0
        have TG : Hid (on.isSome = true ∧ (getA on).2 = 0) := by rw [hon]; exact ⟨rfl, rfl⟩
        clear hon hen
        obtain ⟨F1, f1⟩ := IA.out.r1
        have hraw := praw_any f1
        have hget := fun wx (h : PReg F1 r wx on en) => pget_any h
        have hcnt := fun wx (h : PReg F1 r wx on en) => pcount_any h
        have hgw : (lastA on).Wf := lastA_wf f1.ok
        obtain ⟨R, hR⟩ : ∃ R, R = rawOf on := ⟨_, rfl⟩
        have hrl : R.length ≤ 128 := by rw [hR]; exact rawOf_len f1.ok
        rw [← hR] at hraw
        obtain ⟨n6, hn6⟩ : ∃ q, q = R.length := ⟨_, rfl⟩
        have h6 : n6 ≤ 128 := by rw [hn6]; exact hrl
        obtain ⟨MG, hMG⟩ : ∃ q, q = ancC (lastA on) := ⟨_, rfl⟩
        have gs : MG.size = 71 := by rw [hMG]; exact ancC_size hgw
        have gon : MG.all (·.oneCell') = true := by rw [hMG]; exact ancC_one _
        have hneq := fun x y (wx : World) => neqP hgw hgw x y wx
        rw [sameA_self, ← hMG] at hneq
        have hget2 : ∀ wx, PReg F1 r wx on en → Calls Try.prog 17 #[rr r] wx fun e w' => e = .returned (.tuple #[.agg MG, .int .i64 0]) ∧ Below wx.heap.size wx w' := fun wx h => by have k := hget wx h; rw [TG.out.2] at k; rw [hMG]; exact k
        rw [← hMG] at LAA
        rw [← HN0.out] at hcnt
        have RAW := Lib.hid hraw; have GET := Lib.hid hget2; have CNT := Lib.hid hcnt; have GS := Lib.hid gs; have GO := Lib.hid gon; have NEQ := Lib.hid hneq; have FR := Lib.hid f1; have HN6 := Lib.hid hn6; have HNE := HN0; have HMG := Lib.hid hMG
        clear hraw hget hget2 hcnt gs gon hneq f1 hgw hR hrl hn6 hMG
        go_wp2_with fail
        refine RAW.out.mono ?_
        rintro e w11 ⟨v11, rfl, ho11, hb11⟩
        obtain ⟨a6, c6, rfl⟩ := own_hd7 ho11 HN6.out
        have hi6 : Inc 5 .u8 w10.heap.size w11 a6 n6 := by
          unfold OwnB at ho11
          rw [← HN6.out] at ho11
          exact inc_own ho11 fun u hu => by obtain ⟨q, _, rfl⟩ := List.mem_map.1 hu; exact ⟨_, rfl⟩
        have B11 := Lib.hid hb11; have J6 := Lib.hid hi6
        clear ho11 hb11 hi6 RAW
        go_wp2_with fail
        go_loopw [103] (fun i wr => ∃ k : Nat, k ≤ n6 ∧ i = .int .i64 k ∧ Below w10.heap.size w10 wr ∧ Inc 5 .u8 w10.heap.size wr a6 n6) (fun i _ => n6 - (intOf i).toNat)
        case atStart => exact ⟨0, by omega, rfl, B11.out, J6.out⟩
        case round =>
          clear B11 J6
          obtain ⟨k, hk, rfl, hB, hI6⟩ := hrel
          by_cases hlk : k < n6
          · have hlk' : (k : Int) < (n6 : Int) := by omega
            obtain ⟨g, cur, q, e, hg, hA, hs, cz, hn⟩ := hI6.at hlk
            obtain ⟨y9, hy⟩ := inc_u8 q
            have HB := Lib.hid hB; have HA := Lib.hid hA; have HS := Lib.hid hs; have HNN := Lib.hid hn; have HG := Lib.hid hg; have HY := Lib.hid hy
            subst e
            clear hB hI6 hA hs hn hg hy
            go_wp2_with (first
              | (refine wpList_bin (by rfl) .add _ _ _ _ _ _ _ (by rfl) (by rfl) (by rfl) (fun wx => HY.out _ _ _ _ wx) ?_)
              | (refine Mem.wpList_store_one (by rfl) 5 _ _ (by rfl) (by rfl) g k (.int .u8 y9) (by rfl) (by rfl) (by rfl) infoB cur 5 HA.out HS.out ?_; intro w12 ha ho hk9; have M9 := Lib.hid (HNN.out w12 y9 ha); have B9 := Lib.hid (hk9 _ _ HB.out HG.out); clear ha ho hk9))
            go_roundw
            case rel => exact ⟨k + 1, by omega, by go_num, B9.out, M9.out⟩
            case measure => simp [intOf]; omega
          · have hge : ¬ (k : Int) < (n6 : Int) := by omega
            have HB := Lib.hid hB
            clear hB hI6 hlk
            go_wp2_with fail
            refine (GET.out _ (FR.out.below HB.out)).mono ?_
            rintro e w12 ⟨rfl, hb12⟩
            have b12 : Below w10.heap.size w10 w12 := HB.out.trans (hb12.mono HB.out.size)
            have b13 : Below w10.heap.size w10 (w12.alloc (.cells MG 31)) := b12.alloc b12.size _
            have Y13 := Lib.hid (at_new w12 MG 31); have L13 := Lib.hid (LAA.out.below b13 LAA.out.lt); have R13 := Lib.hid (FR.out.below b13); have J13 := Lib.hid ((IA.out.below b13).mono (Pr' := fun k => k = b9) fun k hk => .inl hk)
            clear hb12 b12 b13 HB
            have hx := HX.out
            go_wp2_with (first
              | (refine wpList_store_new (by rfl) 31 _ _ (by rfl) (by rfl) MG _ _ (by rfl) (by rfl) (by rw [GS.out]; exact infoAncP) (by rw [GS.out, ZS.out]) GO.out ?_; clear hx; generalize w12.alloc (.cells MG 31) = w13 at *; generalize w12.heap.size = y13 at *)
              | (refine wpList_load_wanted (by rfl) 31 _ (by rfl) y13 (by first | (with_reducible exact Mem.ev_const _ _) | (with_reducible exact Mem.ev_zero _ _ _) | (with_reducible (apply Eq.trans (Mem.ev_tmp _ _ _)); simp only [List.getD_cons_succ, List.getD_cons_zero] <;> rfl)) _ Try.underlying31 (by rfl) MG _ Y13.out (by rw [GS.out]; exact infoAncP) ?_; (simp only [Act.put, List.setIfInBounds_toArray, List.set_cons_zero, List.set_cons_succ]); refine wpList_load_wanted (by rfl) 31 _ (by rfl) b9 (by first | (with_reducible exact Mem.ev_const _ _) | (with_reducible exact Mem.ev_zero _ _ _) | (with_reducible (apply Eq.trans (Mem.ev_tmp _ _ _)); simp only [List.getD_cons_succ, List.getD_cons_zero] <;> rfl)) _ Try.underlying31 (by rfl) MG _ L13.out (by rw [GS.out]; exact infoAncP) ?_; (simp only [Act.put, List.setIfInBounds_toArray, List.set_cons_zero, List.set_cons_succ]); refine wpList_bin (by rfl) _ _ _ _ _ _ _ (.bool false) (by rfl) (by first | (with_reducible exact Mem.ev_const _ _) | (with_reducible exact Mem.ev_zero _ _ _) | (with_reducible (apply Eq.trans (Mem.ev_tmp _ _ _)); simp only [List.getD_cons_succ, List.getD_cons_zero] <;> rfl)) (by first | (with_reducible exact Mem.ev_const _ _) | (with_reducible exact Mem.ev_zero _ _ _) | (with_reducible (apply Eq.trans (Mem.ev_tmp _ _ _)); simp only [List.getD_cons_succ, List.getD_cons_zero] <;> rfl)) (fun wx => NEQ.out _ _ wx) ?_; (simp only [Act.put, List.setIfInBounds_toArray, List.set_cons_zero, List.set_cons_succ]); refine ls_move _ _ (by rfl) (.inl (by rfl)) (by first | (with_reducible exact Mem.ev_const _ _) | (with_reducible exact Mem.ev_zero _ _ _) | (with_reducible (apply Eq.trans (Mem.ev_tmp _ _ _)); simp only [List.getD_cons_succ, List.getD_cons_zero] <;> rfl)) ?_; (simp only [Act.put, List.setIfInBounds_toArray, List.set_cons_zero, List.set_cons_succ]); refine ls_move _ _ (by rfl) (.inl (by rfl)) (by first | (with_reducible exact Mem.ev_const _ _) | (with_reducible exact Mem.ev_zero _ _ _) | (with_reducible (apply Eq.trans (Mem.ev_tmp _ _ _)); simp only [List.getD_cons_succ, List.getD_cons_zero] <;> rfl)) ?_; (simp only [Act.put, List.setIfInBounds_toArray, List.set_cons_zero, List.set_cons_succ]); refine ls_move _ _ (by rfl) (.inl (by rfl)) (by first | (with_reducible exact Mem.ev_const _ _) | (with_reducible exact Mem.ev_zero _ _ _) | (with_reducible (apply Eq.trans (Mem.ev_tmp _ _ _)); simp only [List.getD_cons_succ, List.getD_cons_zero] <;> rfl)) ?_; (simp only [Act.put, List.setIfInBounds_toArray, List.set_cons_zero, List.set_cons_succ]); refine wpList_bin (by rfl) _ _ _ _ _ _ _ (.bool true) (by rfl) (by first | (with_reducible exact Mem.ev_const _ _) | (with_reducible exact Mem.ev_zero _ _ _) | (with_reducible (apply Eq.trans (Mem.ev_tmp _ _ _)); simp only [List.getD_cons_succ, List.getD_cons_zero] <;> rfl)) (by rfl) (fun wx => o_ieq _ _ _ _ _ wx) ?_; (simp only [Act.put, List.setIfInBounds_toArray, List.set_cons_zero, List.set_cons_succ]); refine wpList_bin (by rfl) _ _ _ _ _ _ _ (.bool false) (by rfl) (by first | (with_reducible exact Mem.ev_const _ _) | (with_reducible exact Mem.ev_zero _ _ _) | (with_reducible (apply Eq.trans (Mem.ev_tmp _ _ _)); simp only [List.getD_cons_succ, List.getD_cons_zero] <;> rfl)) (by first | (with_reducible exact Mem.ev_const _ _) | (with_reducible exact Mem.ev_zero _ _ _) | (with_reducible (apply Eq.trans (Mem.ev_tmp _ _ _)); simp only [List.getD_cons_succ, List.getD_cons_zero] <;> rfl)) (fun wx => o_bne _ _ _ wx) ?_; (simp only [Act.put, List.setIfInBounds_toArray, List.set_cons_zero, List.set_cons_succ]); refine ls_pick_f _ _ _ _ (by rfl) (by rfl) (by first | (with_reducible exact Mem.ev_const _ _) | (with_reducible exact Mem.ev_zero _ _ _) | (with_reducible (apply Eq.trans (Mem.ev_tmp _ _ _)); simp only [List.getD_cons_succ, List.getD_cons_zero] <;> rfl)) (by first | (with_reducible exact Mem.ev_const _ _) | (with_reducible exact Mem.ev_zero _ _ _) | (with_reducible (apply Eq.trans (Mem.ev_tmp _ _ _)); simp only [List.getD_cons_succ, List.getD_cons_zero] <;> rfl)) ?_; (simp only [Act.put, List.setIfInBounds_toArray, List.set_cons_zero, List.set_cons_succ]); refine ls_move _ _ (by rfl) (.inl (by rfl)) (by first | (with_reducible exact Mem.ev_const _ _) | (with_reducible exact Mem.ev_zero _ _ _) | (with_reducible (apply Eq.trans (Mem.ev_tmp _ _ _)); simp only [List.getD_cons_succ, List.getD_cons_zero] <;> rfl)) ?_; (simp only [Act.put, List.setIfInBounds_toArray, List.set_cons_zero, List.set_cons_succ]); refine ls_move _ _ (by rfl) (.inl (by rfl)) (by first | (with_reducible exact Mem.ev_const _ _) | (with_reducible exact Mem.ev_zero _ _ _) | (with_reducible (apply Eq.trans (Mem.ev_tmp _ _ _)); simp only [List.getD_cons_succ, List.getD_cons_zero] <;> rfl)) ?_; (simp only [Act.put, List.setIfInBounds_toArray, List.set_cons_zero, List.set_cons_succ]); refine ls_not _ _ true (.bool false) (by rfl) (by rfl) (by first | (with_reducible exact Mem.ev_const _ _) | (with_reducible exact Mem.ev_zero _ _ _) | (with_reducible (apply Eq.trans (Mem.ev_tmp _ _ _)); simp only [List.getD_cons_succ, List.getD_cons_zero] <;> rfl)) (by rfl) ?_; (simp only [Act.put, List.setIfInBounds_toArray, List.set_cons_zero, List.set_cons_succ]); refine ls_move _ _ (by rfl) (.inl (by rfl)) (by first | (with_reducible exact Mem.ev_const _ _) | (with_reducible exact Mem.ev_zero _ _ _) | (with_reducible (apply Eq.trans (Mem.ev_tmp _ _ _)); simp only [List.getD_cons_succ, List.getD_cons_zero] <;> rfl)) ?_; (simp only [Act.put, List.setIfInBounds_toArray, List.set_cons_zero, List.set_cons_succ]); refine ls_skip (by rfl) ?_; (simp only [Act.put, List.setIfInBounds_toArray, List.set_cons_zero, List.set_cons_succ]); refine ls_skip (by rfl) ?_; (simp only [Act.put, List.setIfInBounds_toArray, List.set_cons_zero, List.set_cons_succ]); refine ls_pick_f _ _ _ _ (by rfl) (by rfl) (by first | (with_reducible exact Mem.ev_const _ _) | (with_reducible exact Mem.ev_zero _ _ _) | (with_reducible (apply Eq.trans (Mem.ev_tmp _ _ _)); simp only [List.getD_cons_succ, List.getD_cons_zero] <;> rfl)) (by first | (with_reducible exact Mem.ev_const _ _) | (with_reducible exact Mem.ev_zero _ _ _) | (with_reducible (apply Eq.trans (Mem.ev_tmp _ _ _)); simp only [List.getD_cons_succ, List.getD_cons_zero] <;> rfl)) ?_; (simp only [Act.put, List.setIfInBounds_toArray, List.set_cons_zero, List.set_cons_succ]); refine ls_pick_f _ _ _ _ (by rfl) (by rfl) (by first | (with_reducible exact Mem.ev_const _ _) | (with_reducible exact Mem.ev_zero _ _ _) | (with_reducible (apply Eq.trans (Mem.ev_tmp _ _ _)); simp only [List.getD_cons_succ, List.getD_cons_zero] <;> rfl)) (by first | (with_reducible exact Mem.ev_const _ _) | (with_reducible exact Mem.ev_zero _ _ _) | (with_reducible (apply Eq.trans (Mem.ev_tmp _ _ _)); simp only [List.getD_cons_succ, List.getD_cons_zero] <;> rfl)) ?_; (simp only [Act.put, List.setIfInBounds_toArray, List.set_cons_zero, List.set_cons_succ]); refine ls_move _ _ (by rfl) (.inl (by rfl)) (by first | (with_reducible exact Mem.ev_const _ _) | (with_reducible exact Mem.ev_zero _ _ _) | (with_reducible (apply Eq.trans (Mem.ev_tmp _ _ _)); simp only [List.getD_cons_succ, List.getD_cons_zero] <;> rfl)) ?_; (simp only [Act.put, List.setIfInBounds_toArray, List.set_cons_zero, List.set_cons_succ]); refine ls_move _ _ (by rfl) (.inl (by rfl)) (by first | (with_reducible exact Mem.ev_const _ _) | (with_reducible exact Mem.ev_zero _ _ _) | (with_reducible (apply Eq.trans (Mem.ev_tmp _ _ _)); simp only [List.getD_cons_succ, List.getD_cons_zero] <;> rfl)) ?_; (simp only [Act.put, List.setIfInBounds_toArray, List.set_cons_zero, List.set_cons_succ]); refine ls_call 20 _ _ _ (by kernel_rfl) (by rfl) (by rfl) (by first | exact Mem.ev_none _ | (simp only [List.map_toArray, List.map_cons, List.map_nil, Mem.ev_tmp, List.getD_cons_succ, List.getD_cons_zero] <;> rfl)) ?_; refine (CNT.out _ R13.out).mono ?_; rintro o' w' ⟨rfl, rfl⟩; refine ⟨_, rfl, ?_⟩; (simp only [Act.put, List.setIfInBounds_toArray, List.set_cons_zero, List.set_cons_succ]); refine ls_move _ _ (by rfl) (.inl (by rfl)) (by first | (with_reducible exact Mem.ev_const _ _) | (with_reducible exact Mem.ev_zero _ _ _) | (with_reducible (apply Eq.trans (Mem.ev_tmp _ _ _)); simp only [List.getD_cons_succ, List.getD_cons_zero] <;> rfl)) ?_; (simp only [Act.put, List.setIfInBounds_toArray, List.set_cons_zero, List.set_cons_succ]); refine ls_len _ _ a8 N c8 (by rfl) (by rfl) (by first | (with_reducible exact Mem.ev_const _ _) | (with_reducible exact Mem.ev_zero _ _ _) | (with_reducible (apply Eq.trans (Mem.ev_tmp _ _ _)); simp only [List.getD_cons_succ, List.getD_cons_zero] <;> rfl)) (fun w' => by first | rfl | go_simp) ?_; (simp only [Act.put, List.setIfInBounds_toArray, List.set_cons_zero, List.set_cons_succ]); refine wpList_bin (by rfl) _ _ _ _ _ _ _ (.bool false) (by rfl) (by first | (with_reducible exact Mem.ev_const _ _) | (with_reducible exact Mem.ev_zero _ _ _) | (with_reducible (apply Eq.trans (Mem.ev_tmp _ _ _)); simp only [List.getD_cons_succ, List.getD_cons_zero] <;> rfl)) (by first | (with_reducible exact Mem.ev_const _ _) | (with_reducible exact Mem.ev_zero _ _ _) | (with_reducible (apply Eq.trans (Mem.ev_tmp _ _ _)); simp only [List.getD_cons_succ, List.getD_cons_zero] <;> rfl)) (fun wx => o_ine _ _ _ _ _ wx) ?_; (simp only [Act.put, List.setIfInBounds_toArray, List.set_cons_zero, List.set_cons_succ]); refine ls_pick_f _ _ _ _ (by rfl) (by rfl) (by first | (with_reducible exact Mem.ev_const _ _) | (with_reducible exact Mem.ev_zero _ _ _) | (with_reducible (apply Eq.trans (Mem.ev_tmp _ _ _)); simp only [List.getD_cons_succ, List.getD_cons_zero] <;> rfl)) (by first | (with_reducible exact Mem.ev_const _ _) | (with_reducible exact Mem.ev_zero _ _ _) | (with_reducible (apply Eq.trans (Mem.ev_tmp _ _ _)); simp only [List.getD_cons_succ, List.getD_cons_zero] <;> rfl)) ?_; (simp only [Act.put, List.setIfInBounds_toArray, List.set_cons_zero, List.set_cons_succ]); refine wpList_nil ?_))
            go_roundw
            case rel => exact ⟨j + 1, by omega, by go_num, on, en, a8, c8, by rw [HNE.out], by rw [TG.out.1], by have := EN.out; rw [HNE.out] at this; exact this, by rw [← HNE.out]; exact J13.out, by rw [← HMG.out]; exact L13.out⟩
            case measure => simp [intOf]; omega
      · have hm : mayA x = false := by simpa using hm
        have HC := HF
        clear HT HF
        rcases ho : o with _ | y
        · skip
          obtain ⟨e0, s0, s1⟩ := HC.out hm
          rw [e0]
          rw [s0, s1] at I3
          subst ho
          have RM2 : Hid (∀ wx, Calls Try.prog 12 #[.agg M] wx fun e w' => e = .returned (.bool false) ∧ Below wx.heap.size wx w') := fun wx => by have h := RM.out wx; rw [hm] at h; exact h
          have SE2 : Hid (∀ (F : Foot) (wx : World), PReg F z wx none es → Calls Try.prog 18 #[rr z, .agg M] wx fun e w' => e = .returned (.int .i64 1) ∧ RgEnd F z wx none es w') := fun F wx h => by have k := SET.out F z wx none es h (by rw [← HLN.out]; omega); rw [e0, s0, s1] at k; exact k
          clear e0 s0 s1 hm HC RM SET
          go_wp2_with (refine wpList_load_all (by rfl) 26 _ (by rfl) bx (by rfl) _ Try.underlying26 (by rfl) M _ X3.out (by rw [MS.out]; exact infoAncR) ?_)
          refine (RM2.out w3).mono ?_
          rintro e w4 ⟨rfl, hb4⟩
          have I4 := Lib.hid (I3.out.below hb4); have X4 := Lib.hid (X3.out.below hb4 X3.out.lt); have LA4 := Lib.hid (LA3.out.below hb4 LA3.out.lt)
          clear hb4 I3 X3 LA3 RM2
          go_wp2_with (refine wpList_load_wanted (by rfl) 26 _ (by rfl) bx (by rfl) _ Try.underlying26 (by rfl) M _ X4.out (by rw [MS.out]; exact infoAncR) ?_)
          refine (TH.out w4).mono ?_
          rintro e w5 ⟨rfl, hb5⟩
          have I5 := Lib.hid (I4.out.below hb5); have X5 := Lib.hid (X4.out.below hb5 X4.out.lt); have LA5 := Lib.hid (LA4.out.below hb5 LA4.out.lt)
          clear hb5 I4 X4 LA4
          obtain ⟨F2, f2, fin2⟩ := I5.out.set2
          go_wp2_with fail
          refine (SE2.out F2 w5 f2).mono ?_
          rintro e w6 ⟨rfl, hend⟩
          obtain ⟨i6, same6⟩ := fin2 _ _ _ hend
          have I6 := Lib.hid i6; have X6 := Lib.hid (at_same X5.out (same6 bx (.inr rfl))); have LA6 := Lib.hid (at_same LA5.out (same6 b9 (.inl rfl)))
          clear i6 same6 hend fin2 f2 I5 X5 LA5 SE2
          obtain ⟨a8, ha8⟩ : ∃ q, q = aw := ⟨_, rfl⟩
          obtain ⟨c8, hc8⟩ : ∃ q, q = cw := ⟨_, rfl⟩
          obtain ⟨w10, hw10⟩ : ∃ q, q = w6 := ⟨_, rfl⟩
          obtain ⟨N, hN⟩ : ∃ q, q = ln := ⟨_, rfl⟩
          rw [← ha8, ← hc8, ← hw10, ← hN] at I6
          rw [← hw10] at LA6
          rw [← ha8, ← hc8, ← hw10, ← hN]
          have IA := I6
          have LAA := LA6
          have HN0 : Hid (N = es.length) := hN.trans HLN.out
          clear hN
          clear I6 X6 LA6 ha8 hc8 hw10
          obtain ⟨en, hen⟩ : ∃ q, q = es := ⟨_, rfl⟩
          obtain ⟨on, hon⟩ : ∃ q : Option Anc, q = none := ⟨_, rfl⟩
          have EN : Hid (N ≤ j + 1) := by show N ≤ j + 1; rw [HN0.out]; rw [← HLN.out]; have := HJ.out; omega
          rw [← hon, ← hen] at IA
          rw [← hon] at LAA
          rw [← hen] at HN0
          have TG : Hid (on.isSome = false ∧ (getA on).2 = 6) := by rw [hon]; exact ⟨rfl, rfl⟩
          clear hon hen
          obtain ⟨F1, f1⟩ := IA.out.r1
          have hraw := praw_any f1
          have hget := fun wx (h : PReg F1 r wx on en) => pget_any h
          have hcnt := fun wx (h : PReg F1 r wx on en) => pcount_any h
          have hgw : (lastA on).Wf := lastA_wf f1.ok
          obtain ⟨R, hR⟩ : ∃ R, R = rawOf on := ⟨_, rfl⟩
          have hrl : R.length ≤ 128 := by rw [hR]; exact rawOf_len f1.ok
          rw [← hR] at hraw
          obtain ⟨n6, hn6⟩ : ∃ q, q = R.length := ⟨_, rfl⟩
          have h6 : n6 ≤ 128 := by rw [hn6]; exact hrl
          obtain ⟨MG, hMG⟩ : ∃ q, q = ancC (lastA on) := ⟨_, rfl⟩
          have gs : MG.size = 71 := by rw [hMG]; exact ancC_size hgw
          have gon : MG.all (·.oneCell') = true := by rw [hMG]; exact ancC_one _
          have hneq := fun x y (wx : World) => neqP hgw hgw x y wx
          rw [sameA_self, ← hMG] at hneq
          have hget2 : ∀ wx, PReg F1 r wx on en → Calls Try.prog 17 #[rr r] wx fun e w' => e = .returned (.tuple #[.agg MG, .int .i64 6]) ∧ Below wx.heap.size wx w' := fun wx h => by have k := hget wx h; rw [TG.out.2] at k; rw [hMG]; exact k
          rw [← hMG] at LAA
          rw [← HN0.out] at hcnt
          have RAW := Lib.hid hraw; have GET := Lib.hid hget2; have CNT := Lib.hid hcnt; have GS := Lib.hid gs; have GO := Lib.hid gon; have NEQ := Lib.hid hneq; have FR := Lib.hid f1; have HN6 := Lib.hid hn6; have HNE := HN0; have HMG := Lib.hid hMG
          clear hraw hget hget2 hcnt gs gon hneq f1 hgw hR hrl hn6 hMG
          go_wp2_with fail
          refine RAW.out.mono ?_
          rintro e w11 ⟨v11, rfl, ho11, hb11⟩
          obtain ⟨a6, c6, rfl⟩ := own_hd7 ho11 HN6.out
          have hi6 : Inc 5 .u8 w10.heap.size w11 a6 n6 := by
            unfold OwnB at ho11
            rw [← HN6.out] at ho11
            exact inc_own ho11 fun u hu => by obtain ⟨q, _, rfl⟩ := List.mem_map.1 hu; exact ⟨_, rfl⟩
          have B11 := Lib.hid hb11; have J6 := Lib.hid hi6
          clear ho11 hb11 hi6 RAW
          go_wp2_with fail
          go_loopw [103] (fun i wr => ∃ k : Nat, k ≤ n6 ∧ i = .int .i64 k ∧ Below w10.heap.size w10 wr ∧ Inc 5 .u8 w10.heap.size wr a6 n6) (fun i _ => n6 - (intOf i).toNat)
          case atStart => exact ⟨0, by omega, rfl, B11.out, J6.out⟩
          case round =>
            clear B11 J6
            obtain ⟨k, hk, rfl, hB, hI6⟩ := hrel
            by_cases hlk : k < n6
            · have hlk' : (k : Int) < (n6 : Int) := by omega
              obtain ⟨g, cur, q, e, hg, hA, hs, cz, hn⟩ := hI6.at hlk
              obtain ⟨y9, hy⟩ := inc_u8 q
              have HB := Lib.hid hB; have HA := Lib.hid hA; have HS := Lib.hid hs; have HNN := Lib.hid hn; have HG := Lib.hid hg; have HY := Lib.hid hy
              subst e
              clear hB hI6 hA hs hn hg hy
              go_wp2_with (first
                | (refine wpList_bin (by rfl) .add _ _ _ _ _ _ _ (by rfl) (by rfl) (by rfl) (fun wx => HY.out _ _ _ _ wx) ?_)
                | (refine Mem.wpList_store_one (by rfl) 5 _ _ (by rfl) (by rfl) g k (.int .u8 y9) (by rfl) (by rfl) (by rfl) infoB cur 5 HA.out HS.out ?_; intro w12 ha ho hk9; have M9 := Lib.hid (HNN.out w12 y9 ha); have B9 := Lib.hid (hk9 _ _ HB.out HG.out); clear ha ho hk9))
              go_roundw
              case rel => exact ⟨k + 1, by omega, by go_num, B9.out, M9.out⟩
              case measure => simp [intOf]; omega
            · have hge : ¬ (k : Int) < (n6 : Int) := by omega
              have HB := Lib.hid hB
              clear hB hI6 hlk
              go_wp2_with fail
              refine (GET.out _ (FR.out.below HB.out)).mono ?_
              rintro e w12 ⟨rfl, hb12⟩
              have b12 : Below w10.heap.size w10 w12 := HB.out.trans (hb12.mono HB.out.size)
              have b13 : Below w10.heap.size w10 (w12.alloc (.cells MG 31)) := b12.alloc b12.size _
              have Y13 := Lib.hid (at_new w12 MG 31); have L13 := Lib.hid (LAA.out.below b13 LAA.out.lt); have R13 := Lib.hid (FR.out.below b13); have J13 := Lib.hid ((IA.out.below b13).mono (Pr' := fun k => k = b9) fun k hk => .inl hk)
              clear hb12 b12 b13 HB
              have hx := HX.out
              go_wp2_with (first
                | (refine wpList_store_new (by rfl) 31 _ _ (by rfl) (by rfl) MG _ _ (by rfl) (by rfl) (by rw [GS.out]; exact infoAncP) (by rw [GS.out, ZS.out]) GO.out ?_; clear hx; generalize w12.alloc (.cells MG 31) = w13 at *; generalize w12.heap.size = y13 at *)
                | (refine wpList_load_wanted (by rfl) 31 _ (by rfl) y13 (by first | (with_reducible exact Mem.ev_const _ _) | (with_reducible exact Mem.ev_zero _ _ _) | (with_reducible (apply Eq.trans (Mem.ev_tmp _ _ _)); simp only [List.getD_cons_succ, List.getD_cons_zero] <;> rfl)) _ Try.underlying31 (by rfl) MG _ Y13.out (by rw [GS.out]; exact infoAncP) ?_; (simp only [Act.put, List.setIfInBounds_toArray, List.set_cons_zero, List.set_cons_succ]); refine wpList_load_wanted (by rfl) 31 _ (by rfl) b9 (by first | (with_reducible exact Mem.ev_const _ _) | (with_reducible exact Mem.ev_zero _ _ _) | (with_reducible (apply Eq.trans (Mem.ev_tmp _ _ _)); simp only [List.getD_cons_succ, List.getD_cons_zero] <;> rfl)) _ Try.underlying31 (by rfl) MG _ L13.out (by rw [GS.out]; exact infoAncP) ?_; (simp only [Act.put, List.setIfInBounds_toArray, List.set_cons_zero, List.set_cons_succ]); refine wpList_bin (by rfl) _ _ _ _ _ _ _ (.bool false) (by rfl) (by first | (with_reducible exact Mem.ev_const _ _) | (with_reducible exact Mem.ev_zero _ _ _) | (with_reducible (apply Eq.trans (Mem.ev_tmp _ _ _)); simp only [List.getD_cons_succ, List.getD_cons_zero] <;> rfl)) (by first | (with_reducible exact Mem.ev_const _ _) | (with_reducible exact Mem.ev_zero _ _ _) | (with_reducible (apply Eq.trans (Mem.ev_tmp _ _ _)); simp only [List.getD_cons_succ, List.getD_cons_zero] <;> rfl)) (fun wx => NEQ.out _ _ wx) ?_; (simp only [Act.put, List.setIfInBounds_toArray, List.set_cons_zero, List.set_cons_succ]); refine ls_move _ _ (by rfl) (.inl (by rfl)) (by first | (with_reducible exact Mem.ev_const _ _) | (with_reducible exact Mem.ev_zero _ _ _) | (with_reducible (apply Eq.trans (Mem.ev_tmp _ _ _)); simp only [List.getD_cons_succ, List.getD_cons_zero] <;> rfl)) ?_; (simp only [Act.put, List.setIfInBounds_toArray, List.set_cons_zero, List.set_cons_succ]); refine ls_move _ _ (by rfl) (.inl (by rfl)) (by first | (with_reducible exact Mem.ev_const _ _) | (with_reducible exact Mem.ev_zero _ _ _) | (with_reducible (apply Eq.trans (Mem.ev_tmp _ _ _)); simp only [List.getD_cons_succ, List.getD_cons_zero] <;> rfl)) ?_; (simp only [Act.put, List.setIfInBounds_toArray, List.set_cons_zero, List.set_cons_succ]); refine ls_move _ _ (by rfl) (.inl (by rfl)) (by first | (with_reducible exact Mem.ev_const _ _) | (with_reducible exact Mem.ev_zero _ _ _) | (with_reducible (apply Eq.trans (Mem.ev_tmp _ _ _)); simp only [List.getD_cons_succ, List.getD_cons_zero] <;> rfl)) ?_; (simp only [Act.put, List.setIfInBounds_toArray, List.set_cons_zero, List.set_cons_succ]); refine wpList_bin (by rfl) _ _ _ _ _ _ _ (.bool false) (by rfl) (by first | (with_reducible exact Mem.ev_const _ _) | (with_reducible exact Mem.ev_zero _ _ _) | (with_reducible (apply Eq.trans (Mem.ev_tmp _ _ _)); simp only [List.getD_cons_succ, List.getD_cons_zero] <;> rfl)) (by rfl) (fun wx => o_ieqf _ _ (by decide) _ _ _ _ wx) ?_; (simp only [Act.put, List.setIfInBounds_toArray, List.set_cons_zero, List.set_cons_succ]); refine wpList_bin (by rfl) _ _ _ _ _ _ _ (.bool false) (by rfl) (by first | (with_reducible exact Mem.ev_const _ _) | (with_reducible exact Mem.ev_zero _ _ _) | (with_reducible (apply Eq.trans (Mem.ev_tmp _ _ _)); simp only [List.getD_cons_succ, List.getD_cons_zero] <;> rfl)) (by first | (with_reducible exact Mem.ev_const _ _) | (with_reducible exact Mem.ev_zero _ _ _) | (with_reducible (apply Eq.trans (Mem.ev_tmp _ _ _)); simp only [List.getD_cons_succ, List.getD_cons_zero] <;> rfl)) (fun wx => o_bne _ _ _ wx) ?_; (simp only [Act.put, List.setIfInBounds_toArray, List.set_cons_zero, List.set_cons_succ]); refine ls_pick_f _ _ _ _ (by rfl) (by rfl) (by first | (with_reducible exact Mem.ev_const _ _) | (with_reducible exact Mem.ev_zero _ _ _) | (with_reducible (apply Eq.trans (Mem.ev_tmp _ _ _)); simp only [List.getD_cons_succ, List.getD_cons_zero] <;> rfl)) (by first | (with_reducible exact Mem.ev_const _ _) | (with_reducible exact Mem.ev_zero _ _ _) | (with_reducible (apply Eq.trans (Mem.ev_tmp _ _ _)); simp only [List.getD_cons_succ, List.getD_cons_zero] <;> rfl)) ?_; (simp only [Act.put, List.setIfInBounds_toArray, List.set_cons_zero, List.set_cons_succ]); refine ls_move _ _ (by rfl) (.inl (by rfl)) (by first | (with_reducible exact Mem.ev_const _ _) | (with_reducible exact Mem.ev_zero _ _ _) | (with_reducible (apply Eq.trans (Mem.ev_tmp _ _ _)); simp only [List.getD_cons_succ, List.getD_cons_zero] <;> rfl)) ?_; (simp only [Act.put, List.setIfInBounds_toArray, List.set_cons_zero, List.set_cons_succ]); refine ls_move _ _ (by rfl) (.inl (by rfl)) (by first | (with_reducible exact Mem.ev_const _ _) | (with_reducible exact Mem.ev_zero _ _ _) | (with_reducible (apply Eq.trans (Mem.ev_tmp _ _ _)); simp only [List.getD_cons_succ, List.getD_cons_zero] <;> rfl)) ?_; (simp only [Act.put, List.setIfInBounds_toArray, List.set_cons_zero, List.set_cons_succ]); refine ls_not _ _ false (.bool true) (by rfl) (by rfl) (by first | (with_reducible exact Mem.ev_const _ _) | (with_reducible exact Mem.ev_zero _ _ _) | (with_reducible (apply Eq.trans (Mem.ev_tmp _ _ _)); simp only [List.getD_cons_succ, List.getD_cons_zero] <;> rfl)) (by rfl) ?_; (simp only [Act.put, List.setIfInBounds_toArray, List.set_cons_zero, List.set_cons_succ]); refine ls_move _ _ (by rfl) (.inl (by rfl)) (by first | (with_reducible exact Mem.ev_const _ _) | (with_reducible exact Mem.ev_zero _ _ _) | (with_reducible (apply Eq.trans (Mem.ev_tmp _ _ _)); simp only [List.getD_cons_succ, List.getD_cons_zero] <;> rfl)) ?_; (simp only [Act.put, List.setIfInBounds_toArray, List.set_cons_zero, List.set_cons_succ]); refine ls_move _ _ (by rfl) (.inl (by rfl)) (by first | (with_reducible exact Mem.ev_const _ _) | (with_reducible exact Mem.ev_zero _ _ _) | (with_reducible (apply Eq.trans (Mem.ev_tmp _ _ _)); simp only [List.getD_cons_succ, List.getD_cons_zero] <;> rfl)) ?_; (simp only [Act.put, List.setIfInBounds_toArray, List.set_cons_zero, List.set_cons_succ]); refine wpList_bin (by rfl) _ _ _ _ _ _ _ (.bool false) (by rfl) (by first | (with_reducible exact Mem.ev_const _ _) | (with_reducible exact Mem.ev_zero _ _ _) | (with_reducible (apply Eq.trans (Mem.ev_tmp _ _ _)); simp only [List.getD_cons_succ, List.getD_cons_zero] <;> rfl)) (by rfl) (fun wx => o_ine _ _ _ _ _ wx) ?_; (simp only [Act.put, List.setIfInBounds_toArray, List.set_cons_zero, List.set_cons_succ]); refine ls_pick_t _ _ _ _ (by rfl) (by rfl) (by first | (with_reducible exact Mem.ev_const _ _) | (with_reducible exact Mem.ev_zero _ _ _) | (with_reducible (apply Eq.trans (Mem.ev_tmp _ _ _)); simp only [List.getD_cons_succ, List.getD_cons_zero] <;> rfl)) (by first | (with_reducible exact Mem.ev_const _ _) | (with_reducible exact Mem.ev_zero _ _ _) | (with_reducible (apply Eq.trans (Mem.ev_tmp _ _ _)); simp only [List.getD_cons_succ, List.getD_cons_zero] <;> rfl)) ?_; (simp only [Act.put, List.setIfInBounds_toArray, List.set_cons_zero, List.set_cons_succ]); refine ls_pick_f _ _ _ _ (by rfl) (by rfl) (by first | (with_reducible exact Mem.ev_const _ _) | (with_reducible exact Mem.ev_zero _ _ _) | (with_reducible (apply Eq.trans (Mem.ev_tmp _ _ _)); simp only [List.getD_cons_succ, List.getD_cons_zero] <;> rfl)) (by first | (with_reducible exact Mem.ev_const _ _) | (with_reducible exact Mem.ev_zero _ _ _) | (with_reducible (apply Eq.trans (Mem.ev_tmp _ _ _)); simp only [List.getD_cons_succ, List.getD_cons_zero] <;> rfl)) ?_; (simp only [Act.put, List.setIfInBounds_toArray, List.set_cons_zero, List.set_cons_succ]); refine ls_move _ _ (by rfl) (.inl (by rfl)) (by first | (with_reducible exact Mem.ev_const _ _) | (with_reducible exact Mem.ev_zero _ _ _) | (with_reducible (apply Eq.trans (Mem.ev_tmp _ _ _)); simp only [List.getD_cons_succ, List.getD_cons_zero] <;> rfl)) ?_; (simp only [Act.put, List.setIfInBounds_toArray, List.set_cons_zero, List.set_cons_succ]); refine ls_move _ _ (by rfl) (.inl (by rfl)) (by first | (with_reducible exact Mem.ev_const _ _) | (with_reducible exact Mem.ev_zero _ _ _) | (with_reducible (apply Eq.trans (Mem.ev_tmp _ _ _)); simp only [List.getD_cons_succ, List.getD_cons_zero] <;> rfl)) ?_; (simp only [Act.put, List.setIfInBounds_toArray, List.set_cons_zero, List.set_cons_succ]); refine ls_call 20 _ _ _ (by kernel_rfl) (by rfl) (by rfl) (by first | exact Mem.ev_none _ | (simp only [List.map_toArray, List.map_cons, List.map_nil, Mem.ev_tmp, List.getD_cons_succ, List.getD_cons_zero] <;> rfl)) ?_; refine (CNT.out _ R13.out).mono ?_; rintro o' w' ⟨rfl, rfl⟩; refine ⟨_, rfl, ?_⟩; (simp only [Act.put, List.setIfInBounds_toArray, List.set_cons_zero, List.set_cons_succ]); refine ls_move _ _ (by rfl) (.inl (by rfl)) (by first | (with_reducible exact Mem.ev_const _ _) | (with_reducible exact Mem.ev_zero _ _ _) | (with_reducible (apply Eq.trans (Mem.ev_tmp _ _ _)); simp only [List.getD_cons_succ, List.getD_cons_zero] <;> rfl)) ?_; (simp only [Act.put, List.setIfInBounds_toArray, List.set_cons_zero, List.set_cons_succ]); refine ls_len _ _ a8 N c8 (by rfl) (by rfl) (by first | (with_reducible exact Mem.ev_const _ _) | (with_reducible exact Mem.ev_zero _ _ _) | (with_reducible (apply Eq.trans (Mem.ev_tmp _ _ _)); simp only [List.getD_cons_succ, List.getD_cons_zero] <;> rfl)) (fun w' => by first | rfl | go_simp) ?_; (simp only [Act.put, List.setIfInBounds_toArray, List.set_cons_zero, List.set_cons_succ]); refine wpList_bin (by rfl) _ _ _ _ _ _ _ (.bool false) (by rfl) (by first | (with_reducible exact Mem.ev_const _ _) | (with_reducible exact Mem.ev_zero _ _ _) | (with_reducible (apply Eq.trans (Mem.ev_tmp _ _ _)); simp only [List.getD_cons_succ, List.getD_cons_zero] <;> rfl)) (by first | (with_reducible exact Mem.ev_const _ _) | (with_reducible exact Mem.ev_zero _ _ _) | (with_reducible (apply Eq.trans (Mem.ev_tmp _ _ _)); simp only [List.getD_cons_succ, List.getD_cons_zero] <;> rfl)) (fun wx => o_ine _ _ _ _ _ wx) ?_; (simp only [Act.put, List.setIfInBounds_toArray, List.set_cons_zero, List.set_cons_succ]); refine ls_pick_f _ _ _ _ (by rfl) (by rfl) (by first | (with_reducible exact Mem.ev_const _ _) | (with_reducible exact Mem.ev_zero _ _ _) | (with_reducible (apply Eq.trans (Mem.ev_tmp _ _ _)); simp only [List.getD_cons_succ, List.getD_cons_zero] <;> rfl)) (by first | (with_reducible exact Mem.ev_const _ _) | (with_reducible exact Mem.ev_zero _ _ _) | (with_reducible (apply Eq.trans (Mem.ev_tmp _ _ _)); simp only [List.getD_cons_succ, List.getD_cons_zero] <;> rfl)) ?_; (simp only [Act.put, List.setIfInBounds_toArray, List.set_cons_zero, List.set_cons_succ]); refine wpList_nil ?_))
              go_roundw
              case rel => exact ⟨j + 1, by omega, by go_num, on, en, a8, c8, by rw [HNE.out], by rw [TG.out.1], by have := EN.out; rw [HNE.out] at this; exact this, by rw [← HNE.out]; exact J13.out, by rw [← HMG.out]; exact L13.out⟩
              case measure => simp [intOf]; omega
        · skip
          obtain ⟨e0, s0, s1⟩ := HC.out hm
          rw [e0]
          rw [s0, s1] at I3
          subst ho
          have RM2 : Hid (∀ wx, Calls Try.prog 12 #[.agg M] wx fun e w' => e = .returned (.bool false) ∧ Below wx.heap.size wx w') := fun wx => by have h := RM.out wx; rw [hm] at h; exact h
          have SE2 : Hid (∀ (F : Foot) (wx : World), PReg F z wx (some y) es → Calls Try.prog 18 #[rr z, .agg M] wx fun e w' => e = .returned (.int .i64 1) ∧ RgEnd F z wx (some y) es w') := fun F wx h => by have k := SET.out F z wx (some y) es h (by rw [← HLN.out]; omega); rw [e0, s0, s1] at k; exact k
          clear e0 s0 s1 hm HC RM SET
          go_wp2_with (refine wpList_load_all (by rfl) 26 _ (by rfl) bx (by rfl) _ Try.underlying26 (by rfl) M _ X3.out (by rw [MS.out]; exact infoAncR) ?_)
          refine (RM2.out w3).mono ?_
          rintro e w4 ⟨rfl, hb4⟩
          have I4 := Lib.hid (I3.out.below hb4); have X4 := Lib.hid (X3.out.below hb4 X3.out.lt); have LA4 := Lib.hid (LA3.out.below hb4 LA3.out.lt)
          clear hb4 I3 X3 LA3 RM2
          go_wp2_with (refine wpList_load_wanted (by rfl) 26 _ (by rfl) bx (by rfl) _ Try.underlying26 (by rfl) M _ X4.out (by rw [MS.out]; exact infoAncR) ?_)
          refine (TH.out w4).mono ?_
          rintro e w5 ⟨rfl, hb5⟩
          have I5 := Lib.hid (I4.out.below hb5); have X5 := Lib.hid (X4.out.below hb5 X4.out.lt); have LA5 := Lib.hid (LA4.out.below hb5 LA4.out.lt)
          clear hb5 I4 X4 LA4
          obtain ⟨F2, f2, fin2⟩ := I5.out.set2
          go_wp2_with fail
          refine (SE2.out F2 w5 f2).mono ?_
          rintro e w6 ⟨rfl, hend⟩
          obtain ⟨i6, same6⟩ := fin2 _ _ _ hend
          have I6 := Lib.hid i6; have X6 := Lib.hid (at_same X5.out (same6 bx (.inr rfl))); have LA6 := Lib.hid (at_same LA5.out (same6 b9 (.inl rfl)))
          clear i6 same6 hend fin2 f2 I5 X5 LA5 SE2
          obtain ⟨a8, ha8⟩ : ∃ q, q = aw := ⟨_, rfl⟩
          obtain ⟨c8, hc8⟩ : ∃ q, q = cw := ⟨_, rfl⟩
          obtain ⟨w10, hw10⟩ : ∃ q, q = w6 := ⟨_, rfl⟩
          obtain ⟨N, hN⟩ : ∃ q, q = ln := ⟨_, rfl⟩
          rw [← ha8, ← hc8, ← hw10, ← hN] at I6
          rw [← hw10] at LA6
          rw [← ha8, ← hc8, ← hw10, ← hN]
          have IA := I6
          have LAA := LA6
          have HN0 : Hid (N = es.length) := hN.trans HLN.out
          clear hN
          clear I6 X6 LA6 ha8 hc8 hw10
          obtain ⟨en, hen⟩ : ∃ q, q = es := ⟨_, rfl⟩
          obtain ⟨on, hon⟩ : ∃ q : Option Anc, q = (some y) := ⟨_, rfl⟩
          have EN : Hid (N ≤ j + 1) := by show N ≤ j + 1; rw [HN0.out]; rw [← HLN.out]; have := HJ.out; omega
          rw [← hon, ← hen] at IA
          rw [← hon] at LAA
          rw [← hen] at HN0
          have TG : Hid (on.isSome = true ∧ (getA on).2 = 0) := by rw [hon]; exact ⟨rfl, rfl⟩
          clear hon hen
          obtain ⟨F1, f1⟩ := IA.out.r1
          have hraw := praw_any f1
          have hget := fun wx (h : PReg F1 r wx on en) => pget_any h
          have hcnt := fun wx (h : PReg F1 r wx on en) => pcount_any h
          have hgw : (lastA on).Wf := lastA_wf f1.ok
          obtain ⟨R, hR⟩ : ∃ R, R = rawOf on := ⟨_, rfl⟩
          have hrl : R.length ≤ 128 := by rw [hR]; exact rawOf_len f1.ok
          rw [← hR] at hraw
          obtain ⟨n6, hn6⟩ : ∃ q, q = R.length := ⟨_, rfl⟩
          have h6 : n6 ≤ 128 := by rw [hn6]; exact hrl
          obtain ⟨MG, hMG⟩ : ∃ q, q = ancC (lastA on) := ⟨_, rfl⟩
          have gs : MG.size = 71 := by rw [hMG]; exact ancC_size hgw
          have gon : MG.all (·.oneCell') = true := by rw [hMG]; exact ancC_one _
          have hneq := fun x y (wx : World) => neqP hgw hgw x y wx
          rw [sameA_self, ← hMG] at hneq
          have hget2 : ∀ wx, PReg F1 r wx on en → Calls Try.prog 17 #[rr r] wx fun e w' => e = .returned (.tuple #[.agg MG, .int .i64 0]) ∧ Below wx.heap.size wx w' := fun wx h => by have k := hget wx h; rw [TG.out.2] at k; rw [hMG]; exact k
          rw [← hMG] at LAA
          rw [← HN0.out] at hcnt
          have RAW := Lib.hid hraw; have GET := Lib.hid hget2; have CNT := Lib.hid hcnt; have GS := Lib.hid gs; have GO := Lib.hid gon; have NEQ := Lib.hid hneq; have FR := Lib.hid f1; have HN6 := Lib.hid hn6; have HNE := HN0; have HMG := Lib.hid hMG
          clear hraw hget hget2 hcnt gs gon hneq f1 hgw hR hrl hn6 hMG
          go_wp2_with fail
          refine RAW.out.mono ?_
          rintro e w11 ⟨v11, rfl, ho11, hb11⟩
          obtain ⟨a6, c6, rfl⟩ := own_hd7 ho11 HN6.out
          have hi6 : Inc 5 .u8 w10.heap.size w11 a6 n6 := by
            unfold OwnB at ho11
            rw [← HN6.out] at ho11
            exact inc_own ho11 fun u hu => by obtain ⟨q, _, rfl⟩ := List.mem_map.1 hu; exact ⟨_, rfl⟩
          have B11 := Lib.hid hb11; have J6 := Lib.hid hi6
          clear ho11 hb11 hi6 RAW
          go_wp2_with fail
          go_loopw [103] (fun i wr => ∃ k : Nat, k ≤ n6 ∧ i = .int .i64 k ∧ Below w10.heap.size w10 wr ∧ Inc 5 .u8 w10.heap.size wr a6 n6) (fun i _ => n6 - (intOf i).toNat)
          case atStart => exact ⟨0, by omega, rfl, B11.out, J6.out⟩
          case round =>
            clear B11 J6
            obtain ⟨k, hk, rfl, hB, hI6⟩ := hrel
            by_cases hlk : k < n6
            · have hlk' : (k : Int) < (n6 : Int) := by omega
              obtain ⟨g, cur, q, e, hg, hA, hs, cz, hn⟩ := hI6.at hlk
              obtain ⟨y9, hy⟩ := inc_u8 q
              have HB := Lib.hid hB; have HA := Lib.hid hA; have HS := Lib.hid hs; have HNN := Lib.hid hn; have HG := Lib.hid hg; have HY := Lib.hid hy
              subst e
              clear hB hI6 hA hs hn hg hy
              go_wp2_with (first
                | (refine wpList_bin (by rfl) .add _ _ _ _ _ _ _ (by rfl) (by rfl) (by rfl) (fun wx => HY.out _ _ _ _ wx) ?_)
                | (refine Mem.wpList_store_one (by rfl) 5 _ _ (by rfl) (by rfl) g k (.int .u8 y9) (by rfl) (by rfl) (by rfl) infoB cur 5 HA.out HS.out ?_; intro w12 ha ho hk9; have M9 := Lib.hid (HNN.out w12 y9 ha); have B9 := Lib.hid (hk9 _ _ HB.out HG.out); clear ha ho hk9))
              go_roundw
              case rel => exact ⟨k + 1, by omega, by go_num, B9.out, M9.out⟩
              case measure => simp [intOf]; omega
            · have hge : ¬ (k : Int) < (n6 : Int) := by omega
              have HB := Lib.hid hB
              clear hB hI6 hlk
              go_wp2_with fail
              refine (GET.out _ (FR.out.below HB.out)).mono ?_
              rintro e w12 ⟨rfl, hb12⟩
              have b12 : Below w10.heap.size w10 w12 := HB.out.trans (hb12.mono HB.out.size)
              have b13 : Below w10.heap.size w10 (w12.alloc (.cells MG 31)) := b12.alloc b12.size _
              have Y13 := Lib.hid (at_new w12 MG 31); have L13 := Lib.hid (LAA.out.below b13 LAA.out.lt); have R13 := Lib.hid (FR.out.below b13); have J13 := Lib.hid ((IA.out.below b13).mono (Pr' := fun k => k = b9) fun k hk => .inl hk)
              clear hb12 b12 b13 HB
              have hx := HX.out
              go_wp2_with (first
                | (refine wpList_store_new (by rfl) 31 _ _ (by rfl) (by rfl) MG _ _ (by rfl) (by rfl) (by rw [GS.out]; exact infoAncP) (by rw [GS.out, ZS.out]) GO.out ?_; clear hx; generalize w12.alloc (.cells MG 31) = w13 at *; generalize w12.heap.size = y13 at *)
                | (refine wpList_load_wanted (by rfl) 31 _ (by rfl) y13 (by first | (with_reducible exact Mem.ev_const _ _) | (with_reducible exact Mem.ev_zero _ _ _) | (with_reducible (apply Eq.trans (Mem.ev_tmp _ _ _)); simp only [List.getD_cons_succ, List.getD_cons_zero] <;> rfl)) _ Try.underlying31 (by rfl) MG _ Y13.out (by rw [GS.out]; exact infoAncP) ?_; (simp only [Act.put, List.setIfInBounds_toArray, List.set_cons_zero, List.set_cons_succ]); refine wpList_load_wanted (by rfl) 31 _ (by rfl) b9 (by first | (with_reducible exact Mem.ev_const _ _) | (with_reducible exact Mem.ev_zero _ _ _) | (with_reducible (apply Eq.trans (Mem.ev_tmp _ _ _)); simp only [List.getD_cons_succ, List.getD_cons_zero] <;> rfl)) _ Try.underlying31 (by rfl) MG _ L13.out (by rw [GS.out]; exact infoAncP) ?_; (simp only [Act.put, List.setIfInBounds_toArray, List.set_cons_zero, List.set_cons_succ]); refine wpList_bin (by rfl) _ _ _ _ _ _ _ (.bool false) (by rfl) (by first | (with_reducible exact Mem.ev_const _ _) | (with_reducible exact Mem.ev_zero _ _ _) | (with_reducible (apply Eq.trans (Mem.ev_tmp _ _ _)); simp only [List.getD_cons_succ, List.getD_cons_zero] <;> rfl)) (by first | (with_reducible exact Mem.ev_const _ _) | (with_reducible exact Mem.ev_zero _ _ _) | (with_reducible (apply Eq.trans (Mem.ev_tmp _ _ _)); simp only [List.getD_cons_succ, List.getD_cons_zero] <;> rfl)) (fun wx => NEQ.out _ _ wx) ?_; (simp only [Act.put, List.setIfInBounds_toArray, List.set_cons_zero, List.set_cons_succ]); refine ls_move _ _ (by rfl) (.inl (by rfl)) (by first | (with_reducible exact Mem.ev_const _ _) | (with_reducible exact Mem.ev_zero _ _ _) | (with_reducible (apply Eq.trans (Mem.ev_tmp _ _ _)); simp only [List.getD_cons_succ, List.getD_cons_zero] <;> rfl)) ?_; (simp only [Act.put, List.setIfInBounds_toArray, List.set_cons_zero, List.set_cons_succ]); refine ls_move _ _ (by rfl) (.inl (by rfl)) (by first | (with_reducible exact Mem.ev_const _ _) | (with_reducible exact Mem.ev_zero _ _ _) | (with_reducible (apply Eq.trans (Mem.ev_tmp _ _ _)); simp only [List.getD_cons_succ, List.getD_cons_zero] <;> rfl)) ?_; (simp only [Act.put, List.setIfInBounds_toArray, List.set_cons_zero, List.set_cons_succ]); refine ls_move _ _ (by rfl) (.inl (by rfl)) (by first | (with_reducible exact Mem.ev_const _ _) | (with_reducible exact Mem.ev_zero _ _ _) | (with_reducible (apply Eq.trans (Mem.ev_tmp _ _ _)); simp only [List.getD_cons_succ, List.getD_cons_zero] <;> rfl)) ?_; (simp only [Act.put, List.setIfInBounds_toArray, List.set_cons_zero, List.set_cons_succ]); refine wpList_bin (by rfl) _ _ _ _ _ _ _ (.bool true) (by rfl) (by first | (with_reducible exact Mem.ev_const _ _) | (with_reducible exact Mem.ev_zero _ _ _) | (with_reducible (apply Eq.trans (Mem.ev_tmp _ _ _)); simp only [List.getD_cons_succ, List.getD_cons_zero] <;> rfl)) (by rfl) (fun wx => o_ieq _ _ _ _ _ wx) ?_; (simp only [Act.put, List.setIfInBounds_toArray, List.set_cons_zero, List.set_cons_succ]); refine wpList_bin (by rfl) _ _ _ _ _ _ _ (.bool false) (by rfl) (by first | (with_reducible exact Mem.ev_const _ _) | (with_reducible exact Mem.ev_zero _ _ _) | (with_reducible (apply Eq.trans (Mem.ev_tmp _ _ _)); simp only [List.getD_cons_succ, List.getD_cons_zero] <;> rfl)) (by first | (with_reducible exact Mem.ev_const _ _) | (with_reducible exact Mem.ev_zero _ _ _) | (with_reducible (apply Eq.trans (Mem.ev_tmp _ _ _)); simp only [List.getD_cons_succ, List.getD_cons_zero] <;> rfl)) (fun wx => o_bne _ _ _ wx) ?_; (simp only [Act.put, List.setIfInBounds_toArray, List.set_cons_zero, List.set_cons_succ]); refine ls_pick_f _ _ _ _ (by rfl) (by rfl) (by first | (with_reducible exact Mem.ev_const _ _) | (with_reducible exact Mem.ev_zero _ _ _) | (with_reducible (apply Eq.trans (Mem.ev_tmp _ _ _)); simp only [List.getD_cons_succ, List.getD_cons_zero] <;> rfl)) (by first | (with_reducible exact Mem.ev_const _ _) | (with_reducible exact Mem.ev_zero _ _ _) | (with_reducible (apply Eq.trans (Mem.ev_tmp _ _ _)); simp only [List.getD_cons_succ, List.getD_cons_zero] <;> rfl)) ?_; (simp only [Act.put, List.setIfInBounds_toArray, List.set_cons_zero, List.set_cons_succ]); refine ls_move _ _ (by rfl) (.inl (by rfl)) (by first | (with_reducible exact Mem.ev_const _ _) | (with_reducible exact Mem.ev_zero _ _ _) | (with_reducible (apply Eq.trans (Mem.ev_tmp _ _ _)); simp only [List.getD_cons_succ, List.getD_cons_zero] <;> rfl)) ?_; (simp only [Act.put, List.setIfInBounds_toArray, List.set_cons_zero, List.set_cons_succ]); refine ls_move _ _ (by rfl) (.inl (by rfl)) (by first | (with_reducible exact Mem.ev_const _ _) | (with_reducible exact Mem.ev_zero _ _ _) | (with_reducible (apply Eq.trans (Mem.ev_tmp _ _ _)); simp only [List.getD_cons_succ, List.getD_cons_zero] <;> rfl)) ?_; (simp only [Act.put, List.setIfInBounds_toArray, List.set_cons_zero, List.set_cons_succ]); refine ls_not _ _ true (.bool false) (by rfl) (by rfl) (by first | (with_reducible exact Mem.ev_const _ _) | (with_reducible exact Mem.ev_zero _ _ _) | (with_reducible (apply Eq.trans (Mem.ev_tmp _ _ _)); simp only [List.getD_cons_succ, List.getD_cons_zero] <;> rfl)) (by rfl) ?_; (simp only [Act.put, List.setIfInBounds_toArray, List.set_cons_zero, List.set_cons_succ]); refine ls_move _ _ (by rfl) (.inl (by rfl)) (by first | (with_reducible exact Mem.ev_const _ _) | (with_reducible exact Mem.ev_zero _ _ _) | (with_reducible (apply Eq.trans (Mem.ev_tmp _ _ _)); simp only [List.getD_cons_succ, List.getD_cons_zero] <;> rfl)) ?_; (simp only [Act.put, List.setIfInBounds_toArray, List.set_cons_zero, List.set_cons_succ]); refine ls_skip (by rfl) ?_; (simp only [Act.put, List.setIfInBounds_toArray, List.set_cons_zero, List.set_cons_succ]); refine ls_skip (by rfl) ?_; (simp only [Act.put, List.setIfInBounds_toArray, List.set_cons_zero, List.set_cons_succ]); refine ls_pick_f _ _ _ _ (by rfl) (by rfl) (by first | (with_reducible exact Mem.ev_const _ _) | (with_reducible exact Mem.ev_zero _ _ _) | (with_reducible (apply Eq.trans (Mem.ev_tmp _ _ _)); simp only [List.getD_cons_succ, List.getD_cons_zero] <;> rfl)) (by first | (with_reducible exact Mem.ev_const _ _) | (with_reducible exact Mem.ev_zero _ _ _) | (with_reducible (apply Eq.trans (Mem.ev_tmp _ _ _)); simp only [List.getD_cons_succ, List.getD_cons_zero] <;> rfl)) ?_; (simp only [Act.put, List.setIfInBounds_toArray, List.set_cons_zero, List.set_cons_succ]); refine ls_pick_f _ _ _ _ (by rfl) (by rfl) (by first | (with_reducible exact Mem.ev_const _ _) | (with_reducible exact Mem.ev_zero _ _ _) | (with_reducible (apply Eq.trans (Mem.ev_tmp _ _ _)); simp only [List.getD_cons_succ, List.getD_cons_zero] <;> rfl)) (by first | (with_reducible exact Mem.ev_const _ _) | (with_reducible exact Mem.ev_zero _ _ _) | (with_reducible (apply Eq.trans (Mem.ev_tmp _ _ _)); simp only [List.getD_cons_succ, List.getD_cons_zero] <;> rfl)) ?_; (simp only [Act.put, List.setIfInBounds_toArray, List.set_cons_zero, List.set_cons_succ]); refine ls_move _ _ (by rfl) (.inl (by rfl)) (by first | (with_reducible exact Mem.ev_const _ _) | (with_reducible exact Mem.ev_zero _ _ _) | (with_reducible (apply Eq.trans (Mem.ev_tmp _ _ _)); simp only [List.getD_cons_succ, List.getD_cons_zero] <;> rfl)) ?_; (simp only [Act.put, List.setIfInBounds_toArray, List.set_cons_zero, List.set_cons_succ]); refine ls_move _ _ (by rfl) (.inl (by rfl)) (by first | (with_reducible exact Mem.ev_const _ _) | (with_reducible exact Mem.ev_zero _ _ _) | (with_reducible (apply Eq.trans (Mem.ev_tmp _ _ _)); simp only [List.getD_cons_succ, List.getD_cons_zero] <;> rfl)) ?_; (simp only [Act.put, List.setIfInBounds_toArray, List.set_cons_zero, List.set_cons_succ]); refine ls_call 20 _ _ _ (by kernel_rfl) (by rfl) (by rfl) (by first | exact Mem.ev_none _ | (simp only [List.map_toArray, List.map_cons, List.map_nil, Mem.ev_tmp, List.getD_cons_succ, List.getD_cons_zero] <;> rfl)) ?_; refine (CNT.out _ R13.out).mono ?_; rintro o' w' ⟨rfl, rfl⟩; refine ⟨_, rfl, ?_⟩; (simp only [Act.put, List.setIfInBounds_toArray, List.set_cons_zero, List.set_cons_succ]); refine ls_move _ _ (by rfl) (.inl (by rfl)) (by first | (with_reducible exact Mem.ev_const _ _) | (with_reducible exact Mem.ev_zero _ _ _) | (with_reducible (apply Eq.trans (Mem.ev_tmp _ _ _)); simp only [List.getD_cons_succ, List.getD_cons_zero] <;> rfl)) ?_; (simp only [Act.put, List.setIfInBounds_toArray, List.set_cons_zero, List.set_cons_succ]); refine ls_len _ _ a8 N c8 (by rfl) (by rfl) (by first | (with_reducible exact Mem.ev_const _ _) | (with_reducible exact Mem.ev_zero _ _ _) | (with_reducible (apply Eq.trans (Mem.ev_tmp _ _ _)); simp only [List.getD_cons_succ, List.getD_cons_zero] <;> rfl)) (fun w' => by first | rfl | go_simp) ?_; (simp only [Act.put, List.setIfInBounds_toArray, List.set_cons_zero, List.set_cons_succ]); refine wpList_bin (by rfl) _ _ _ _ _ _ _ (.bool false) (by rfl) (by first | (with_reducible exact Mem.ev_const _ _) | (with_reducible exact Mem.ev_zero _ _ _) | (with_reducible (apply Eq.trans (Mem.ev_tmp _ _ _)); simp only [List.getD_cons_succ, List.getD_cons_zero] <;> rfl)) (by first | (with_reducible exact Mem.ev_const _ _) | (with_reducible exact Mem.ev_zero _ _ _) | (with_reducible (apply Eq.trans (Mem.ev_tmp _ _ _)); simp only [List.getD_cons_succ, List.getD_cons_zero] <;> rfl)) (fun wx => o_ine _ _ _ _ _ wx) ?_; (simp only [Act.put, List.setIfInBounds_toArray, List.set_cons_zero, List.set_cons_succ]); refine ls_pick_f _ _ _ _ (by rfl) (by rfl) (by first | (with_reducible exact Mem.ev_const _ _) | (with_reducible exact Mem.ev_zero _ _ _) | (with_reducible (apply Eq.trans (Mem.ev_tmp _ _ _)); simp only [List.getD_cons_succ, List.getD_cons_zero] <;> rfl)) (by first | (with_reducible exact Mem.ev_const _ _) | (with_reducible exact Mem.ev_zero _ _ _) | (with_reducible (apply Eq.trans (Mem.ev_tmp _ _ _)); simp only [List.getD_cons_succ, List.getD_cons_zero] <;> rfl)) ?_; (simp only [Act.put, List.setIfInBounds_toArray, List.set_cons_zero, List.set_cons_succ]); refine wpList_nil ?_))
              go_roundw
              case rel => exact ⟨j + 1, by omega, by go_num, on, en, a8, c8, by rw [HNE.out], by rw [TG.out.1], by have := EN.out; rw [HNE.out] at this; exact this, by rw [← HNE.out]; exact J13.out, by rw [← HMG.out]; exact L13.out⟩
              case measure => simp [intOf]; omega
    · have hge : ¬ (j : Int) < (n : Int) := by omega
      obtain ⟨ln, hln⟩ : ∃ q, q = es.length := ⟨_, rfl⟩
      obtain ⟨F1, f1⟩ := hI.r1
      obtain ⟨F2, f2⟩ := hI.r2
      have h60 : ln ≤ 60 := by omega
      have hep := pepochs_any f1 (by omega)
      have hb9 : Below w.heap.size w wr := B3.out.trans (hI.base.mono B3.out.size)
      have how := hI.own
      have hsa : ∀ (v1 v2 : Value) (wx : World), Sl wx v1 (rawOf o) → Sl wx v2 (rawOf o) → Calls Try.prog 10 #[v1, v2] wx fun e w' => e = .returned (.bool true) ∧ Below wx.heap.size wx w' := fun v1 v2 wx h1 h2 => by
        have hl := rawOf_len f1.ok
        have h := same_any (rawOf o) (rawOf o) v1 v2 wx h1 h2 (by omega) (by omega)
        rw [sameB_self] at h; exact h
      rw [← hln] at hep how ⊢
      have EP := Lib.hid hep; have FA := Lib.hid f1; have FB := Lib.hid f2; have B9 := Lib.hid hb9; have OW := Lib.hid how; have SA := Lib.hid hsa
      clear hI hLA hlt hj hep f1 f2 hb9 how hsa hes hln
      go_wp2_with fail
      refine EP.out.mono ?_
      rintro e w1 ⟨v1, rfl, ho1, hb1⟩
      obtain ⟨a1, c1, rfl⟩ := rows_hd ho1
      have G1 := Lib.hid (ownsRow_slR ho1); have W1 := Lib.hid (ownsRow_slR (ownsRow_below OW.out hb1)); have FA1 := Lib.hid (FA.out.below hb1); have FB1 := Lib.hid (FB.out.below hb1); have B1 := Lib.hid (B9.out.trans (hb1.mono B9.out.size))
      clear ho1 hb1 EP FA FB B9 OW
      go_wp2_with fail
      go_loopw [152] (fun i wq => ∃ k : Nat, k ≤ ln ∧ i = .int .i64 k ∧ ∃ q, wq = w1.drewN q) (fun i _ => ln - (intOf i).toNat)
      case atStart => exact ⟨0, Nat.zero_le _, rfl, 0, rfl⟩
      case round =>
        obtain ⟨k, hk, rfl, q, rfl⟩ := hrel
        by_cases hlk : k < ln
        · obtain ⟨b1, o1, e1, cl⟩ := u32n_at G1.out hlk
          obtain ⟨b2, o2, e2, cm⟩ := u32n_at W1.out hlk
          subst e1; subst e2
          have z0 : (0 : Int) ≤ (k : Int) := by omega
          have zn : (k : Int) < (ln : Int) := by omega
          obtain ⟨y, hy⟩ : ∃ y, y = es.getD k 0 := ⟨_, rfl⟩
          rw [← hy] at cl cm
          clear hy
          go_wp2_with fail
          go_quiet (fail)
          go_wp2_with fail
          go_roundw
          case rel => exact ⟨k + 1, by omega, by go_num, _, rfl⟩
          case measure => simp [intOf]; omega
        · have hge : ¬ (k : Int) < (ln : Int) := by omega
          have bq : Hid (Below w1.heap.size w1 (w1.drewN q)) := (⟨rfl, rfl, rfl, Nat.le_refl _, fun _ _ => rfl⟩ : Below w1.heap.size w1 (w1.drewN q))
          clear hlk
          go_wp2_with fail
          refine (praw_any (FA1.out.below bq.out)).mono ?_
          rintro e w2 ⟨v2, rfl, ho2, hb2⟩
          have O2 := Lib.hid ho2.sl; have B2 : Hid (Below w1.heap.size w1 w2) := bq.out.trans hb2
          clear ho2 hb2
          go_wp2_with fail
          refine (praw_any (FB1.out.below B2.out)).mono ?_
          rintro e w3 ⟨v3, rfl, ho3, hb3⟩
          have O3 := Lib.hid ho3.sl; have S3 := Lib.hid (O2.out.below hb3); have B3' : Hid (Below w1.heap.size w1 w3) := B2.out.trans (hb3.mono B2.out.size)
          clear ho3 hb3
          go_wp2_with fail
          refine (SA.out v2 v3 w3 S3.out O3.out).mono ?_
          rintro e w4 ⟨rfl, hb4⟩
          have B4 : Hid (Below w1.heap.size w1 w4) := B3'.out.trans (hb4.mono B3'.out.size)
          clear hb4
          go_wp2_with fail
          refine (AL.out w4).mono ?_
          rintro e w5 ⟨rfl, hb5⟩
          have B5 : Hid (Below w1.heap.size w1 w5) := B4.out.trans (hb5.mono B4.out.size)
          clear hb5
          go_wp2_with fail
          go_ret
          exact ⟨rfl, B1.out.trans (B5.out.mono B1.out.size)⟩
end Sha
end Go.Proofs.Ytknaimpnkflfnaa
