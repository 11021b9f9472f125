/- The walk of the law StretchBegins: a longer key begins with the shorter one. -/
import Derived.Test.YtngegegomkclbaaDoorStrLive
import Derived.Test.YtngegegomkclbaaDoorMacEq
namespace Go.Proofs.YtngegegomkclbaaDoor
namespace Sha
open Go.RowKit Mem
/-- The call's own box of an Ask. -/
def askRow (vp vs : Value) (r size : Int) : Array Value := #[vp, vs, .int .i64 r, .int .i64 size]
theorem ask_cells {w : World} {b : Nat} {vp vs : Value} {r size : Int} (h : At w b (askRow vp vs r size) 35) : w.cell? ⟨b, 0, none⟩ = some vp ∧ w.cell? ⟨b, 1, none⟩ = some vs ∧ w.cell? ⟨b, 2, none⟩ = some (.int .i64 r) ∧ w.cell? ⟨b, 3, none⟩ = some (.int .i64 size) :=
  ⟨by rw [h.cell]; rfl, by rw [h.cell]; rfl, by rw [h.cell]; rfl, by rw [h.cell]; rfl⟩
theorem at_sl_take {w : World} {b n k : Nat} {l : List (BitVec 8)} {t : TypeId} (h : At w b (u8s l).toArray t) (hk : l.length = k) (hn : n ≤ k) : Sl w (.slice (some ⟨b, 0, none⟩) n k) (l.take n) := by
  have hl : (l.take n).length = n := by rw [List.length_take]; omega
  refine ⟨_, k, by rw [hl], by rw [hl]; exact hn, fun _ => ⟨b, 0, rfl, h.lt, fun i hi => ?_⟩⟩
  rw [hl] at hi
  rw [Nat.zero_add, h.cell, List.getElem?_toArray, u8s_get l i (by omega)]
  simp [List.getD_eq_getElem?_getD, hi]
theorem farB_no {lp ls : Nat} {r size : Int} (h : farB lp ls r size = false) : lp ≤ 200 ∧ ls ≤ 200 ∧ (6 < r → 10000 < r) ∧ (100 < size → 1024 < size) := by
  unfold farB at h
  simp at h
  omega
set_option maxRecDepth 100000 in
set_option maxHeartbeats 1000000 in
theorem begins_near (p s : List (BitVec 8)) (r size m : Nat) (vp vs : Value) (w : World) (hp : Sl w vp p) (hs : Sl w vs s) (lp : p.length ≤ 200) (ls : s.length ≤ 200) (r1 : 1 ≤ r) (r2 : r ≤ 6) (z : size ≤ 100) (hm : m ≤ 255) (hL : Tabs w) :
    Calls Tryd.prog 7 #[.agg (askRow vp vs r size), .int .u8 (m : Int)] w fun e w' => e = .returned (.bool true) ∧ Below w.heap.size w w' := by
  obtain ⟨q, hq⟩ : ∃ q, q = m % 100 := ⟨_, rfl⟩
  have hq1 : (m : Int).tmod 100 = (q : Int) := by rw [Int.tmod_eq_emod_of_nonneg (by omega)]; omega
  have hq2 : q < 100 := by omega
  have hk1 := fun (wx : World) (hx : Below w.heap.size w wx) => skey_good p s r size vp vs wx r1 (by omega) (by omega) (by omega) (by omega) (hp.below hx) (hs.below hx) (hL.below hx (Nat.le_refl _))
  have hk2 : ∀ (wx : World), Below w.heap.size w wx → Calls Tryd.prog 22 #[vp, vs, .int .i64 (r : Int), .int .i64 ((size : Int) + (q : Int))] wx (KEnd wx (stretched p s r (size + q))) := fun wx hx => by
    have h := skey_good p s r (size + q) vp vs wx r1 (by omega) (by omega) (by omega) (by omega) (hp.below hx) (hs.below hx) (hL.below hx (Nat.le_refl _))
    rw [Int.natCast_add] at h
    exact h
  have hbeg := stretched_begins p s r size (size + q) (by omega)
  have l1 := stretched_length p s r size
  have l2 := stretched_length p s r (size + q)
  have hal := fun wx (h : Below w.heap.size w wx) => alive3_any wx (hL.below h (Nat.le_refl _))
  generalize stretched p s r size = K1 at *
  generalize stretched p s r (size + q) = K2 at *
  have hsame := fun (wx : World) (u v : Value) (h1 : Sl wx u K1) (h2 : Sl wx v K1) => same_any K1 K1 u v wx h1 h2 (by omega) (by omega)
  rw [sameB_self] at hsame
  obtain ⟨A0, hA⟩ : ∃ A, A = askRow vp vs r size := ⟨_, rfl⟩
  obtain ⟨a1, c1, rfl, _, _⟩ := hp
  obtain ⟨a2, c2, rfl, _, _⟩ := hs
  have hfar := fun wx => far3_any a1 a2 p.length s.length c1 c2 (r : Int) (size : Int) wx
  rw [show farB p.length s.length (r : Int) (size : Int) = false by unfold farB; simp; omega] at hfar
  generalize p.length = np at *
  generalize s.length = ns at *
  have h100 : ¬ (100 : Int) < (size : Int) := by omega
  have a0 : At (w.alloc (.cells A0 35)) w.heap.size A0 35 := at_new w A0 _
  have b0 : Below w.heap.size w (w.alloc (.cells A0 35)) := (Below.refl _ _).alloc (Nat.le_refl _) _
  rw [← hA]
  have KA := Lib.hid hk1; have KB := Lib.hid hk2; have BEG := Lib.hid hbeg; have LA := Lib.hid l1; have LB := Lib.hid l2; have HAL := Lib.hid hal; have SAME := Lib.hid hsame; have FAR := Lib.hid hfar; have HA := Lib.hid hA; have A1 := Lib.hid a0; have B1 := Lib.hid b0
  clear hk1 hk2 hbeg l1 l2 hal hsame hfar hA a0 b0 hL hq lp ls
  go_enter Tryd.func7, Tryd.ntmps7
  generalize hw1 : w.alloc (.cells A0 35) = w1 at *
  obtain ⟨c0, c1', c2', c3'⟩ := ask_cells (HA.out ▸ A1.out)
  go_wp2_with fail
  refine (FAR.out _).mono ?_
  rintro e w' ⟨rfl, rfl⟩
  go_wp2_with fail
  refine (KA.out _ B1.out).mono ?_
  rintro e w2 ⟨g1, rfl, hk2, hg2, hb2⟩
  have K2' := Lib.hid hk2; have A2 := Lib.hid (A1.out.below hb2 A1.out.lt); have B2 := Lib.hid (B1.out.trans (hb2.mono B1.out.size))
  clear hk2 hg2 hb2 c0 c1' c2' c3'
  rw [LA.out]
  obtain ⟨c0, c1', c2', c3'⟩ := ask_cells (HA.out ▸ A2.out)
  go_wp2_with fail
  refine (KB.out _ B2.out).mono ?_
  rintro e w3 ⟨g2, rfl, hk3, hg3, hb3⟩
  have K3' := Lib.hid hk3; have K2'' := Lib.hid (K2'.out.below hb3 K2'.out.lt); have A3 := Lib.hid (A2.out.below hb3 A2.out.lt); have B3 := Lib.hid (B2.out.trans (hb3.mono B2.out.size))
  clear hk3 hg3 hb3 c0 c1' c2' c3' K2' A2 A1 B2 B1
  rw [LB.out]
  obtain ⟨c0, c1', c2', c3'⟩ := ask_cells (HA.out ▸ A3.out)
  have hle : (size : Int) ≤ (size : Int) + (q : Int) := by omega
  go_wp2_with fail
  refine (SAME.out _ _ _ (at_sl K2''.out LA.out) (by have h := at_sl_take (n := size) K3'.out LB.out (by omega); rw [BEG.out] at h; exact h)).mono ?_
  rintro e w4 ⟨rfl, hb4⟩
  have B4 := Lib.hid (B3.out.trans (hb4.mono B3.out.size))
  clear hb4
  go_wp2_with fail
  refine (HAL.out _ B4.out).mono ?_
  rintro e w5 ⟨rfl, hb5⟩
  have B5 := Lib.hid (B4.out.trans (hb5.mono B4.out.size))
  clear hb5
  go_wp2_with fail
  go_ret
  exact ⟨rfl, B5.out⟩
set_option maxRecDepth 100000 in
set_option maxHeartbeats 1000000 in
theorem begins_far (p s : List (BitVec 8)) (r size : Int) (m : Nat) (vp vs : Value) (w : World) (hp : Sl w vp p) (hs : Sl w vs s) (hf : farB p.length s.length r size = true) (_hm : m ≤ 255) (hL : Tabs w) :
    Calls Tryd.prog 7 #[.agg (askRow vp vs r size), .int .u8 (m : Int)] w fun e w' => e = .returned (.bool true) ∧ Below w.heap.size w w' := by
  have HAL := Lib.hid (fun wx (h : Below w.heap.size w wx) => alive3_any wx (hL.below h (Nat.le_refl _)))
  obtain ⟨A0, hA⟩ : ∃ A, A = askRow vp vs r size := ⟨_, rfl⟩
  obtain ⟨a1, c1, rfl, _, _⟩ := hp
  obtain ⟨a2, c2, rfl, _, _⟩ := hs
  have hfar := fun wx => far3_any a1 a2 p.length s.length c1 c2 r size wx
  rw [hf] at hfar
  generalize p.length = np at *
  generalize s.length = ns at *
  have a0 : At (w.alloc (.cells A0 35)) w.heap.size A0 35 := at_new w A0 _
  have b0 : Below w.heap.size w (w.alloc (.cells A0 35)) := (Below.refl _ _).alloc (Nat.le_refl _) _
  rw [← hA]
  have FAR := Lib.hid hfar; have HA := Lib.hid hA; have A1 := Lib.hid a0; have B1 := Lib.hid b0
  clear hfar hA a0 b0 hL hf
  go_enter Tryd.func7, Tryd.ntmps7
  generalize hw1 : w.alloc (.cells A0 35) = w1 at *
  obtain ⟨c0, c1', c2', c3'⟩ := ask_cells (HA.out ▸ A1.out)
  go_wp2_with fail
  refine (FAR.out _).mono ?_
  rintro e w' ⟨rfl, rfl⟩
  go_wp2_with fail
  refine (HAL.out _ B1.out).mono ?_
  rintro e w5 ⟨rfl, hb5⟩
  have B5 := Lib.hid (B1.out.trans (hb5.mono B1.out.size))
  clear hb5
  go_wp2_with fail
  go_ret
  exact ⟨rfl, B5.out⟩
set_option maxRecDepth 100000 in
set_option maxHeartbeats 1000000 in
theorem begins_big (p s : List (BitVec 8)) (r size : Int) (m : Nat) (vp vs : Value) (w : World) (hp : Sl w vp p) (hs : Sl w vs s) (hf : farB p.length s.length r size = false) (hz : 100 < size) (_hm : m ≤ 255) (hL : Tabs w) :
    Calls Tryd.prog 7 #[.agg (askRow vp vs r size), .int .u8 (m : Int)] w fun e w' => e = .returned (.bool true) ∧ Below w.heap.size w w' := by
  have HAL := Lib.hid (fun wx (h : Below w.heap.size w wx) => alive3_any wx (hL.below h (Nat.le_refl _)))
  obtain ⟨A0, hA⟩ : ∃ A, A = askRow vp vs r size := ⟨_, rfl⟩
  obtain ⟨a1, c1, rfl, _, _⟩ := hp
  obtain ⟨a2, c2, rfl, _, _⟩ := hs
  have hfar := fun wx => far3_any a1 a2 p.length s.length c1 c2 r size wx
  rw [hf] at hfar
  generalize p.length = np at *
  generalize s.length = ns at *
  have a0 : At (w.alloc (.cells A0 35)) w.heap.size A0 35 := at_new w A0 _
  have b0 : Below w.heap.size w (w.alloc (.cells A0 35)) := (Below.refl _ _).alloc (Nat.le_refl _) _
  rw [← hA]
  have FAR := Lib.hid hfar; have HA := Lib.hid hA; have A1 := Lib.hid a0; have B1 := Lib.hid b0
  clear hfar hA a0 b0 hL hf
  go_enter Tryd.func7, Tryd.ntmps7
  generalize hw1 : w.alloc (.cells A0 35) = w1 at *
  obtain ⟨c0, c1', c2', c3'⟩ := ask_cells (HA.out ▸ A1.out)
  go_wp2_with fail
  refine (FAR.out _).mono ?_
  rintro e w' ⟨rfl, rfl⟩
  go_wp2_with fail
  refine (HAL.out _ B1.out).mono ?_
  rintro e w5 ⟨rfl, hb5⟩
  have B5 := Lib.hid (B1.out.trans (hb5.mono B1.out.size))
  clear hb5
  go_wp2_with fail
  go_ret
  exact ⟨rfl, B5.out⟩
set_option maxRecDepth 100000 in
set_option maxHeartbeats 1000000 in
theorem begins_bad (p s : List (BitVec 8)) (r size : Int) (m : Nat) (vp vs : Value) (w : World) (hp : Sl w vp p) (hs : Sl w vs s) (hf : farB p.length s.length r size = false) (hz : ¬ 100 < size) (hk : keyB r size = false) (_hm : m ≤ 255) (hL : Tabs w) :
    Calls Tryd.prog 7 #[.agg (askRow vp vs r size), .int .u8 (m : Int)] w fun e w' => e = .returned (.bool true) ∧ Below w.heap.size w w' := by
  have HAL := Lib.hid (fun wx (h : Below w.heap.size w wx) => alive3_any wx (hL.below h (Nat.le_refl _)))
  obtain ⟨A0, hA⟩ : ∃ A, A = askRow vp vs r size := ⟨_, rfl⟩
  obtain ⟨a1, c1, rfl, _, _⟩ := hp
  obtain ⟨a2, c2, rfl, _, _⟩ := hs
  have hfar := fun wx => far3_any a1 a2 p.length s.length c1 c2 r size wx
  rw [hf] at hfar
  generalize p.length = np at *
  generalize s.length = ns at *
  have a0 : At (w.alloc (.cells A0 35)) w.heap.size A0 35 := at_new w A0 _
  have b0 : Below w.heap.size w (w.alloc (.cells A0 35)) := (Below.refl _ _).alloc (Nat.le_refl _) _
  rw [← hA]
  have FAR := Lib.hid hfar; have HA := Lib.hid hA; have A1 := Lib.hid a0; have B1 := Lib.hid b0; have BAD := Lib.hid (fun wx => skey_bad r size (.slice a1 np c1) (.slice a2 ns c2) wx hk)
  clear hfar hA a0 b0 hL hf hk
  go_enter Tryd.func7, Tryd.ntmps7
  generalize hw1 : w.alloc (.cells A0 35) = w1 at *
  obtain ⟨c0, c1', c2', c3'⟩ := ask_cells (HA.out ▸ A1.out)
  go_wp2_with fail
  refine (FAR.out _).mono ?_
  rintro e w' ⟨rfl, rfl⟩
  go_wp2_with fail
  refine (BAD.out _).mono ?_
  rintro e w' ⟨rfl, rfl⟩
  go_wp2_with fail
  refine (HAL.out _ B1.out).mono ?_
  rintro e w5 ⟨rfl, hb5⟩
  have B5 := Lib.hid (B1.out.trans (hb5.mono B1.out.size))
  clear hb5
  go_wp2_with fail
  go_ret
  exact ⟨rfl, B5.out⟩
theorem begins_any (p s : List (BitVec 8)) (r size : Int) (m : Nat) (vp vs : Value) (w : World) (hp : Sl w vp p) (hs : Sl w vs s) (hm : m ≤ 255) (hL : Tabs w) :
    Calls Tryd.prog 7 #[.agg (askRow vp vs r size), .int .u8 (m : Int)] w fun e w' => e = .returned (.bool true) ∧ Below w.heap.size w w' := by
  cases hf : farB p.length s.length r size
  · by_cases hz : 100 < size
    · exact begins_big p s r size m vp vs w hp hs hf hz hm hL
    · cases hk : keyB r size
      · exact begins_bad p s r size m vp vs w hp hs hf hz hk hm hL
      · have h := farB_no hf
        have hk' : 1 ≤ r ∧ r ≤ 10000 ∧ 0 ≤ size ∧ size ≤ 1024 := by
          unfold keyB roundsB at hk
          simp at hk
          omega
        obtain ⟨r', rfl⟩ : ∃ n : Nat, r = (n : Int) := ⟨r.toNat, by omega⟩
        obtain ⟨z', rfl⟩ : ∃ n : Nat, size = (n : Int) := ⟨size.toNat, by omega⟩
        exact begins_near p s r' z' m vp vs w hp hs h.1 h.2.1 (by omega) (by omega) (by omega) hm hL
  · exact begins_far p s r size m vp vs w hp hs hf hm hL
end Sha
end Go.Proofs.YtngegegomkclbaaDoor
