/- The walks of a mac, and of whether one is right. -/
import Derived.Test.YtngegegomkclbaaDoorMacTurn
namespace Go.Proofs.YtngegegomkclbaaDoor
namespace Sha
open Go.RowKit Mem

def mcOf (k m : List (BitVec 8)) : Array Value := (u8s (macOf k m)).toArray
theorem mcOf_size (k m : List (BitVec 8)) : (mcOf k m).size = 32 := by simp [mcOf, u8s, macOf_length]
theorem mcOf_one (k m : List (BitVec 8)) : (mcOf k m).all (·.oneCell') = true := u8s_one _
set_option maxRecDepth 100000 in
set_option maxHeartbeats 1000000 in
theorem mac_any (k : List (BitVec 8)) (ps : List (List (BitVec 8))) (vk vp : Value) (w : World) (hk : Sl w vk k) (hv : Sls w vp ps) (bk : k.length ≤ 1152921504606846975) (hN : ps.flatten.length ≤ 576460752303423487) (hp : ps.length ≤ 9223372036854775806) (hL : Tabs w) :
    Calls Tryd.prog 16 #[vk, vp] w fun e w' => e = .returned (.agg (mcOf k ps.flatten)) ∧ Below w.heap.size w w' := by
  have hx := zero32
  obtain ⟨X, hX⟩ : ∃ X, X = Z32 := ⟨_, rfl⟩
  rw [← hX] at hx
  have hz := zeroK
  obtain ⟨Z, hZ⟩ : ∃ Z, Z = ZT := ⟨_, rfl⟩
  rw [← hZ] at hz
  have hXs : X.size = 32 := by rw [hX]; simp [Z32, u8s]
  have hZs : Z.size = 64 := by rw [hZ]; exact ZT_size
  have hkey := fun (wx : World) (h1 : Sl wx vk k) (ht : Tabs wx) => key_any k vk wx h1 bk ht
  have hin := fun (wx : World) (h1 : Sls wx vp ps) (ht : Tabs wx) => tsum_any (keyOf k) (keyOf_length k) 54 ps vp wx hN hp h1 ht
  have hout := fun (wx : World) (vx : Value) (h1 : Sls wx vx [digestOf (turned (keyOf k) 54 ++ ps.flatten)]) (ht : Tabs wx) => tsum_any (keyOf k) (keyOf_length k) 92 _ vx wx (by simp [digestOf_length]) (by simp) h1 ht
  rw [show [digestOf (turned (keyOf k) 54 ++ ps.flatten)].flatten = digestOf (turned (keyOf k) 54 ++ ps.flatten) by simp] at hout
  obtain ⟨F, hF⟩ : ∃ F, F = kyOf k := ⟨_, rfl⟩
  have eF : (u8s (keyOf k)).toArray = F := by rw [hF]; rfl
  obtain ⟨I, hI⟩ : ∃ I, I = digestOf (turned (keyOf k) 54 ++ ps.flatten) := ⟨_, rfl⟩
  obtain ⟨G, hG⟩ : ∃ G, G = dgOf (turned (keyOf k) 54 ++ ps.flatten) := ⟨_, rfl⟩
  obtain ⟨M, hM⟩ : ∃ M, M = mcOf k ps.flatten := ⟨_, rfl⟩
  have hMs : M.size = 32 := by rw [hM]; exact mcOf_size _ _
  have hMo : M.all (·.oneCell') = true := by rw [hM]; exact mcOf_one _ _
  have eM : dgOf (turned (keyOf k) 92 ++ I) = M := by rw [hM, hI]; rfl
  have eG : G = (u8s I).toArray := by rw [hG, hI]; rfl
  have hIl : I.length = 32 := by rw [hI]; exact digestOf_length _
  rw [← hF] at hkey
  rw [eF, ← hG] at hin
  rw [eF, ← hI, eM] at hout
  rw [← hM]
  have hFs : F.size = 64 := by rw [hF]; exact kyOf_size k
  have hFo : F.all (·.oneCell') = true := by rw [hF]; exact kyOf_one k
  have hGs : G.size = 32 := by rw [hG]; exact dgOf_size _
  have hGo : G.all (·.oneCell') = true := by rw [hG]; exact dgOf_one _
  have e92 : B8 92 = 92 := by decide
  have e54 : B8 54 = 54 := by decide
  rw [e54] at hin
  rw [e92] at hout
  have KEY := Lib.hid hkey; have IN := Lib.hid hin; have OUT := Lib.hid hout; have HK := Lib.hid hk; have HV := Lib.hid hv; have HL := Lib.hid hL
  have XS := Lib.hid hXs; have ZS := Lib.hid hZs; have FS := Lib.hid hFs; have FO := Lib.hid hFo; have GS := Lib.hid hGs; have GO := Lib.hid hGo; have MS := Lib.hid hMs; have MO := Lib.hid hMo; have EG := Lib.hid eG; have IL := Lib.hid hIl
  have R1 := Lib.hid (at_new w X 25); have B1 := Lib.hid ((Below.refl w.heap.size w).alloc (Nat.le_refl _) (.cells X 25))
  clear hkey hin hout hk hv hL hXs hZs hFs hFo hGs hGo hMs hMo eG eF eM e92 e54 hX hZ hF hI hG hM hIl bk hN hp
  go_enter Tryd.func16, Tryd.ntmps16
  go_wp2_with (first
    | (go_at_call 15; refine (KEY.out _ (HK.out.below B1.out) (HL.out.below B1.out (Nat.le_refl _))).mono ?_; rintro e w2 ⟨rfl, hb2⟩; have R2 := Lib.hid (R1.out.below hb2 R1.out.lt); have B2 := Lib.hid (B1.out.trans (hb2.mono B1.out.size)); clear hb2)
    | (refine wpList_store_new (by rfl) 28 _ _ (by rfl) (by rfl) F _ _ (by rfl) (by rfl) (by rw [FS.out]; exact infoK) (by rw [FS.out, ZS.out]) FO.out ?_; have F3 := Lib.hid (at_new w2 F 28); have R3 := Lib.hid (R2.out.alloc (.cells F 28)); have B3 := Lib.hid (B2.out.alloc B2.out.size (.cells F 28)); have NF := Lib.hid (Nat.ne_of_gt R2.out.lt); generalize w2.alloc (.cells F 28) = w3 at *; generalize w2.heap.size = bf at *)
    | (refine wpList_load_all (by rfl) 28 _ (by rfl) bf (by rfl) _ Tryd.underlying28 (by rfl) F _ F3.out (by rw [FS.out]; exact infoK) ?_)
    | (go_at_call 38; refine (IN.out _ (HV.out.below B3.out) (HL.out.below B3.out (Nat.le_refl _))).mono ?_; rintro e w4 ⟨rfl, hb4⟩; have R4 := Lib.hid (R3.out.below hb4 R3.out.lt); have F4 := Lib.hid (F3.out.below hb4 F3.out.lt); have B4 := Lib.hid (B3.out.trans (hb4.mono B3.out.size)); clear hb4)
    | (refine wpList_store_new (by rfl) 25 _ _ (by rfl) (by rfl) G _ _ (by rfl) (by rfl) (by rw [GS.out]; exact info32) (by rw [GS.out, XS.out]) GO.out ?_; have G5 := Lib.hid (at_new w4 G 25); have F5 := Lib.hid (F4.out.alloc (.cells G 25)); have R5 := Lib.hid (R4.out.alloc (.cells G 25)); have B5 := Lib.hid (B4.out.alloc B4.out.size (.cells G 25)); have NG := Lib.hid (Nat.ne_of_gt R4.out.lt); generalize w4.alloc (.cells G 25) = w5 at *; generalize w4.heap.size = bg at *))
  refine wp_region_plan_in (fun w' => But w.heap.size w5 w') (.take 0 (.take 1 (.sole 2 (.sole 3 (.sole 4 .done))))) (by kernel_rfl) (by kernel_rfl) (by kernel_rfl) ⟨Nat.le_refl _, fun _ _ _ => rfl⟩ ?_
  refine plan_row 28 _ bf _ F 28 (by rfl) (by rfl) (by rfl) (by first | (with_reducible exact Mem.ev_const _ _) | (with_reducible exact Mem.ev_zero _ _ _) | (with_reducible (apply Eq.trans (Mem.ev_tmp _ _ _)); simp only [List.getD_cons_succ, List.getD_cons_zero] <;> rfl)) (fun w' hw' => F5.out.but hw' NF.out) Tryd.underlying28 (by rfl) (by rw [FS.out]; exact infoK) ?_
  (simp only [Act.put, List.setIfInBounds_toArray, List.set_cons_zero, List.set_cons_succ])
  refine plan_cut _ _ 32 5 bg 0 (by rfl) (by rfl) (by rfl) (by first | (with_reducible exact Mem.ev_const _ _) | (with_reducible exact Mem.ev_zero _ _ _) | (with_reducible (apply Eq.trans (Mem.ev_tmp _ _ _)); simp only [List.getD_cons_succ, List.getD_cons_zero] <;> rfl)) Tryd.underlying25 infoB ?_
  (simp only [Act.put, List.setIfInBounds_toArray, List.set_cons_zero, List.set_cons_succ])
  have B : Hid (Below w5.heap.size w5 w5.drew) := (Below.refl _ _).drew
  have sg : Hid (Sl w5.drew (.slice (some ⟨bg, 0, none⟩) 32 32) I) := at_sl (by have := G5.out; rw [EG.out] at this; exact this) IL.out
  generalize w5.drew = W at *
  refine plan_slice 51 22 1 _ #[.slice (some ⟨bg, 0, none⟩) 32 32] (by rfl) (by rfl) (by rfl) Tryd.underlying51 (by kernel_rfl) ((But.refl _ _).below (B.out.alloc B.out.size _)) ?_
  have SLS := Lib.hid (sls_lit1 sg.out)
  have B := Lib.hid (B.out.alloc B.out.size (.cells #[.slice (some ⟨bg, 0, none⟩) 32 32] 22))
  (simp only [Act.put, List.setIfInBounds_toArray, List.set_cons_zero, List.set_cons_succ])
  refine plan_call 38 _ _ _ (by kernel_rfl) (by rfl) (by rfl) (by rfl) (by first | exact Mem.ev_none _ | (simp only [List.map_toArray, List.map_cons, List.map_nil, Mem.ev_tmp, List.getD_cons_succ, List.getD_cons_zero] <;> rfl)) ?_
  refine (OUT.out _ _ SLS.out (HL.out.below (B5.out.trans (B.out.mono B5.out.size)) (Nat.le_refl _))).mono ?_
  rintro e W ⟨rfl, hbn⟩
  have B := Lib.hid (B.out.trans (hbn.mono B.out.size))
  clear hbn
  refine ⟨_, rfl, (But.refl _ _).below B.out, ?_⟩
  (simp only [Act.put, List.setIfInBounds_toArray, List.set_cons_zero, List.set_cons_succ])
  refine plan_store 25 _ _ w.heap.size M X 25 (by rfl) (by rfl) (by rfl) (by rfl) (by first | (with_reducible exact Mem.ev_const _ _) | (with_reducible exact Mem.ev_zero _ _ _) | (with_reducible (apply Eq.trans (Mem.ev_tmp _ _ _)); simp only [List.getD_cons_succ, List.getD_cons_zero] <;> rfl)) (by first | (with_reducible exact Mem.ev_const _ _) | (with_reducible exact Mem.ev_zero _ _ _) | (with_reducible (apply Eq.trans (Mem.ev_tmp _ _ _)); simp only [List.getD_cons_succ, List.getD_cons_zero] <;> rfl)) (by rw [MS.out]; exact info32) (R5.out.below B.out R5.out.lt) (by rw [MS.out, XS.out]) MO.out (((But.refl _ _).below B.out).row (by simp) (fun k hk => setRow_other _ _ _ _ hk)) ?_
  refine plan_nil ?_
  go_wp2_with fail
  try simp only [Exit.inBlock, Exit.then]
  refine ret_row (by rfl) w.heap.size 25 M _ (by rfl) ((R5.out.below B.out R5.out.lt).row M) Tryd.underlying25 (by rfl) (by rw [MS.out]; exact info32) ?_
  exact ⟨rfl, below_row (B5.out.trans (B.out.mono B5.out.size)) (Nat.le_refl _) M⟩
end Sha
end Go.Proofs.YtngegegomkclbaaDoor
