/- The walk of the law StretchKeys: the key of any passphrase and salt, by any rounds, of any size, is the document's, or refused. -/
import Derived.Test.YtngegegomkclbaaDoorStrBegins
import Derived.Test.YtngegegomkclbaaDoorRefKey
namespace Go.Proofs.YtngegegomkclbaaDoor
namespace Sha
open Go.RowKit Mem
set_option maxRecDepth 100000 in
set_option maxHeartbeats 1000000 in
theorem skeys_far (p s : List (BitVec 8)) (r size : Int) (vp vs : Value) (w : World) (hp : Sl w vp p) (hs : Sl w vs s) (hf : farB p.length s.length r size = true) (hL : Tabs w) :
    Calls Tryd.prog 5 #[.agg (askRow vp vs r size)] w fun e w' => e = .returned (.bool true) ∧ Below w.heap.size w w' := by
  have HAL := Lib.hid (fun wx (h : Below w.heap.size w wx) => alive3_any wx (hL.below h (Nat.le_refl _)))
  obtain ⟨A0, hA⟩ : ∃ A, A = askRow vp vs r size := ⟨_, rfl⟩
  obtain ⟨a1, c1, rfl, _, _⟩ := hp
  obtain ⟨a2, c2, rfl, _, _⟩ := hs
  have hfar := fun wx => far3_any a1 a2 p.length s.length c1 c2 r size wx
  rw [hf] at hfar
  generalize p.length = np at *
  generalize s.length = ns at *
  have a0 : At (w.alloc (.cells A0 35)) w.heap.size A0 35 := at_new w A0 _
  have b0 : Below w.heap.size w (w.alloc (.cells A0 35)) := (Below.refl _ _).alloc (Nat.le_refl _) _
  rw [← hA]
  have FAR := Lib.hid hfar; have HA := Lib.hid hA; have A1 := Lib.hid a0; have B1 := Lib.hid b0
  clear hfar hA a0 b0 hL hf
  go_enter Tryd.func5, Tryd.ntmps5
  generalize hw1 : w.alloc (.cells A0 35) = w1 at *
  obtain ⟨c0, c1', c2', c3'⟩ := ask_cells (HA.out ▸ A1.out)
  go_wp2_with fail
  refine (FAR.out _).mono ?_
  rintro e w' ⟨rfl, rfl⟩
  go_wp2_with fail
  refine (HAL.out _ B1.out).mono ?_
  rintro e w9 ⟨rfl, hb9⟩
  have B9 := Lib.hid (B1.out.trans (hb9.mono B1.out.size))
  clear hb9
  go_wp2_with fail
  go_ret
  exact ⟨rfl, B9.out⟩
set_option maxRecDepth 100000 in
set_option maxHeartbeats 1000000 in
theorem skeys_bad (p s : List (BitVec 8)) (r size : Int) (vp vs : Value) (w : World) (hp : Sl w vp p) (hs : Sl w vs s) (hf : farB p.length s.length r size = false) (hk : keyB r size = false) (hL : Tabs w) :
    Calls Tryd.prog 5 #[.agg (askRow vp vs r size)] w fun e w' => e = .returned (.bool true) ∧ Below w.heap.size w w' := by
  have HAL := Lib.hid (fun wx (h : Below w.heap.size w wx) => alive3_any wx (hL.below h (Nat.le_refl _)))
  have hsame := fun wx => same_any [] [] (.slice none 0 0) (.slice none 0 0) wx (sl_nil0 _ _) (sl_nil0 _ _) (by simp) (by simp)
  rw [sameB_self] at hsame
  obtain ⟨A0, hA⟩ : ∃ A, A = askRow vp vs r size := ⟨_, rfl⟩
  obtain ⟨a1, c1, rfl, _, _⟩ := hp
  obtain ⟨a2, c2, rfl, _, _⟩ := hs
  have hfar := fun wx => far3_any a1 a2 p.length s.length c1 c2 r size wx
  rw [hf] at hfar
  generalize p.length = np at *
  generalize s.length = ns at *
  have a0 : At (w.alloc (.cells A0 35)) w.heap.size A0 35 := at_new w A0 _
  have b0 : Below w.heap.size w (w.alloc (.cells A0 35)) := (Below.refl _ _).alloc (Nat.le_refl _) _
  rw [← hA]
  have FAR := Lib.hid hfar; have HA := Lib.hid hA; have A1 := Lib.hid a0; have B1 := Lib.hid b0; have BAD := Lib.hid (fun wx => skey_bad r size (.slice a1 np c1) (.slice a2 ns c2) wx hk); have RBAD := Lib.hid (fun wx => rskey_bad r size (.slice a1 np c1) (.slice a2 ns c2) wx hk); have SAME := Lib.hid hsame
  clear hfar hA a0 b0 hL hf hk hsame
  go_enter Tryd.func5, Tryd.ntmps5
  generalize hw1 : w.alloc (.cells A0 35) = w1 at *
  obtain ⟨c0, c1', c2', c3'⟩ := ask_cells (HA.out ▸ A1.out)
  go_wp2_with fail
  refine (FAR.out _).mono ?_
  rintro e w' ⟨rfl, rfl⟩
  go_wp2_with fail
  refine (BAD.out _).mono ?_
  rintro e w' ⟨rfl, rfl⟩
  go_wp2_with fail
  refine (RBAD.out _).mono ?_
  rintro e w' ⟨rfl, rfl⟩
  go_wp2_with fail
  refine (SAME.out _).mono ?_
  rintro e w2 ⟨rfl, hb2⟩
  have B2 := Lib.hid (B1.out.trans (hb2.mono B1.out.size))
  clear hb2
  go_wp2_with fail
  refine (HAL.out _ B2.out).mono ?_
  rintro e w9 ⟨rfl, hb9⟩
  have B9 := Lib.hid (B2.out.trans (hb9.mono B2.out.size))
  clear hb9
  go_wp2_with fail
  go_ret
  exact ⟨rfl, B9.out⟩
set_option maxRecDepth 100000 in
set_option maxHeartbeats 1000000 in
theorem skeys_near (p s : List (BitVec 8)) (r size : Nat) (vp vs : Value) (w : World) (hp : Sl w vp p) (hs : Sl w vs s) (hf : farB p.length s.length (r : Int) (size : Int) = false) (r1 : 1 ≤ r) (r2 : r ≤ 10000) (z : size ≤ 1024) (lp : p.length ≤ 200) (ls : s.length ≤ 200) (hL : Tabs w) :
    Calls Tryd.prog 5 #[.agg (askRow vp vs (r : Int) (size : Int))] w fun e w' => e = .returned (.bool true) ∧ Below w.heap.size w w' := by
  have HAL := Lib.hid (fun wx (h : Below w.heap.size w wx) => alive3_any wx (hL.below h (Nat.le_refl _)))
  have hk1 := fun (wx : World) (hx : Below w.heap.size w wx) => skey_good p s r size vp vs wx r1 r2 z (by omega) (by omega) (hp.below hx) (hs.below hx) (hL.below hx (Nat.le_refl _))
  have hk2 := fun (wx : World) (hx : Below w.heap.size w wx) => rskey_good p s r size vp vs wx r1 r2 z (by omega) (by omega) (hp.below hx) (hs.below hx)
  have l1 := stretched_length p s r size
  generalize stretched p s r size = K1 at *
  have hsame := fun (wx : World) (u v : Value) (h1 : Sl wx u K1) (h2 : Sl wx v K1) => same_any K1 K1 u v wx h1 h2 (by omega) (by omega)
  rw [sameB_self] at hsame
  obtain ⟨A0, hA⟩ : ∃ A, A = askRow vp vs (r : Int) (size : Int) := ⟨_, rfl⟩
  obtain ⟨a1, c1, rfl, _, _⟩ := hp
  obtain ⟨a2, c2, rfl, _, _⟩ := hs
  have hfar := fun wx => far3_any a1 a2 p.length s.length c1 c2 (r : Int) (size : Int) wx
  rw [hf] at hfar
  generalize p.length = np at *
  generalize s.length = ns at *
  have a0 : At (w.alloc (.cells A0 35)) w.heap.size A0 35 := at_new w A0 _
  have b0 : Below w.heap.size w (w.alloc (.cells A0 35)) := (Below.refl _ _).alloc (Nat.le_refl _) _
  rw [← hA]
  have FAR := Lib.hid hfar; have HA := Lib.hid hA; have A1 := Lib.hid a0; have B1 := Lib.hid b0; have KA := Lib.hid hk1; have KB := Lib.hid hk2; have LA := Lib.hid l1; have SAME := Lib.hid hsame
  clear hfar hA a0 b0 hL hf hk1 hk2 l1 hsame lp ls
  go_enter Tryd.func5, Tryd.ntmps5
  generalize hw1 : w.alloc (.cells A0 35) = w1 at *
  obtain ⟨c0, c1', c2', c3'⟩ := ask_cells (HA.out ▸ A1.out)
  go_wp2_with fail
  refine (FAR.out _).mono ?_
  rintro e w' ⟨rfl, rfl⟩
  go_wp2_with fail
  refine (KA.out _ B1.out).mono ?_
  rintro e w2 ⟨g1, rfl, hk2, hg2, hb2⟩
  have K2' := Lib.hid hk2; have A2 := Lib.hid (A1.out.below hb2 A1.out.lt); have B2 := Lib.hid (B1.out.trans (hb2.mono B1.out.size))
  clear hk2 hg2 hb2 c0 c1' c2' c3'
  rw [LA.out]
  obtain ⟨c0, c1', c2', c3'⟩ := ask_cells (HA.out ▸ A2.out)
  go_wp2_with fail
  refine (KB.out _ B2.out).mono ?_
  rintro e w3 ⟨v3, rfl, hk3, hb3⟩
  have K3' := Lib.hid hk3; have K2'' := Lib.hid (K2'.out.below hb3 K2'.out.lt); have B3 := Lib.hid (B2.out.trans (hb3.mono B2.out.size))
  clear hk3 hb3 c0 c1' c2' c3' K2' A2 A1 B2 B1
  go_wp2_with fail
  refine (SAME.out _ _ _ (at_sl K2''.out LA.out) K3'.out).mono ?_
  rintro e w4 ⟨rfl, hb4⟩
  have B4 := Lib.hid (B3.out.trans (hb4.mono B3.out.size))
  clear hb4
  go_wp2_with fail
  refine (HAL.out _ B4.out).mono ?_
  rintro e w9 ⟨rfl, hb9⟩
  have B9 := Lib.hid (B4.out.trans (hb9.mono B4.out.size))
  clear hb9
  go_wp2_with fail
  go_ret
  exact ⟨rfl, B9.out⟩
theorem skeys_any (p s : List (BitVec 8)) (r size : Int) (vp vs : Value) (w : World) (hp : Sl w vp p) (hs : Sl w vs s) (hL : Tabs w) :
    Calls Tryd.prog 5 #[.agg (askRow vp vs r size)] w fun e w' => e = .returned (.bool true) ∧ Below w.heap.size w w' := by
  cases hf : farB p.length s.length r size
  · cases hk : keyB r size
    · exact skeys_bad p s r size vp vs w hp hs hf hk hL
    · have h := farB_no hf
      have hk' : 1 ≤ r ∧ r ≤ 10000 ∧ 0 ≤ size ∧ size ≤ 1024 := by
        unfold keyB roundsB at hk
        simp at hk
        omega
      obtain ⟨r', rfl⟩ : ∃ n : Nat, r = (n : Int) := ⟨r.toNat, by omega⟩
      obtain ⟨z', rfl⟩ : ∃ n : Nat, size = (n : Int) := ⟨size.toNat, by omega⟩
      exact skeys_near p s r' z' vp vs w hp hs hf (by omega) (by omega) (by omega) h.1 h.2.1 hL
  · exact skeys_far p s r size vp vs w hp hs hf hL
end Sha
end Go.Proofs.YtngegegomkclbaaDoor
