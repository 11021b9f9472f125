/- The refusals of Key, the laws' own far and alive. -/
import Derived.Test.YtngegegomkclbaaDoorStrKeyWalk
import Derived.Test.YtngegegomkclbaaDoorMacLive
namespace Go.Proofs.YtngegegomkclbaaDoor
namespace Sha
open Go.RowKit Mem
/-- Is there such a key? -/
def keyB (r size : Int) : Bool := roundsB r && decide (0 ≤ size) && decide (size ≤ 1024)
set_option maxRecDepth 100000 in
set_option maxHeartbeats 400000 in
theorem skey_bad (r size : Int) (vp vs : Value) (w : World) (h : keyB r size = false) :
    Calls Tryd.prog 22 #[vp, vs, .int .i64 r, .int .i64 size] w fun e w' => e = .returned (.tuple #[.slice none 0 0, .int .i64 1]) ∧ w = w' := by
  have har := fun wx => areRounds_any r wx
  cases hr : roundsB r
  · rw [hr] at har
    have AR := Lib.hid har
    clear har h hr
    go_enter Tryd.func22, Tryd.ntmps22
    go_wp2_with (go_at_call 40; refine (AR.out _).mono ?_; rintro e w' ⟨rfl, rfl⟩)
    go_ret2
    exact ⟨rfl, rfl⟩
  · rw [hr] at har
    have AR := Lib.hid har
    unfold keyB at h
    rw [hr] at h
    by_cases h0 : size < 0
    · clear har h hr
      go_enter Tryd.func22, Tryd.ntmps22
      go_wp2_with (go_at_call 40; refine (AR.out _).mono ?_; rintro e w' ⟨rfl, rfl⟩)
      go_ret2
      exact ⟨rfl, rfl⟩
    · have h1 : (1024 : Int) < size := by
        simp at h
        omega
      clear har h hr
      go_enter Tryd.func22, Tryd.ntmps22
      go_wp2_with (go_at_call 40; refine (AR.out _).mono ?_; rintro e w' ⟨rfl, rfl⟩)
      go_ret2
      exact ⟨rfl, rfl⟩
/-- Is there too much? -/
def farB (lp ls : Nat) (r size : Int) : Bool := decide (200 < lp) || decide (200 < ls) || (decide (6 < r) && decide (r ≤ 10000)) || (decide (100 < size) && decide (size ≤ 1024))
set_option maxRecDepth 100000 in
set_option maxHeartbeats 1000000 in
theorem far3_any (a b : Option Addr) (lp ls ca cb : Nat) (r size : Int) (w : World) : Calls Tryd.prog 20 #[.slice a lp ca, .slice b ls cb, .int .i64 r, .int .i64 size] w fun e w' => e = .returned (.bool (farB lp ls r size)) ∧ w = w' := by
  have hf : Hid (farB lp ls r size = (decide (200 < lp) || decide (200 < ls) || (decide (6 < r) && decide (r ≤ 10000)) || (decide (100 < size) && decide (size ≤ 1024)))) := rfl
  by_cases h1 : 200 < lp
  · have h1' : (200 : Int) < (lp : Int) := by omega
    have e : Hid (farB lp ls r size = true) := by rw [Hid, hf.out]; simp [h1]
    clear hf h1
    go_enter Tryd.func20, Tryd.ntmps20
    go_wp2
    go_ret
    exact ⟨by rw [e.out]; rfl, rfl⟩
  have h1' : ¬ (200 : Int) < (lp : Int) := by omega
  by_cases h2 : 200 < ls
  · have h2' : (200 : Int) < (ls : Int) := by omega
    have e : Hid (farB lp ls r size = true) := by rw [Hid, hf.out]; simp [h2]
    clear hf h1 h2
    go_enter Tryd.func20, Tryd.ntmps20
    go_wp2
    go_ret
    exact ⟨by rw [e.out]; rfl, rfl⟩
  have h2' : ¬ (200 : Int) < (ls : Int) := by omega
  by_cases h3 : 6 < r
  · by_cases h4 : r ≤ 10000
    · have e : Hid (farB lp ls r size = true) := by rw [Hid, hf.out]; simp [h3, h4]
      clear hf h1 h2
      go_enter Tryd.func20, Tryd.ntmps20
      go_wp2
      go_ret
      exact ⟨by rw [e.out]; rfl, rfl⟩
    · by_cases h5 : 100 < size
      · by_cases h6 : size ≤ 1024
        · have e : Hid (farB lp ls r size = true) := by rw [Hid, hf.out]; simp [h5, h6]
          clear hf h1 h2
          go_enter Tryd.func20, Tryd.ntmps20
          go_wp2
          go_ret
          exact ⟨by rw [e.out]; rfl, rfl⟩
        · have e : Hid (farB lp ls r size = false) := by rw [Hid, hf.out]; simp [h1, h2, h4, h6]
          clear hf h1 h2
          go_enter Tryd.func20, Tryd.ntmps20
          go_wp2
          go_ret
          exact ⟨by rw [e.out]; rfl, rfl⟩
      · have e : Hid (farB lp ls r size = false) := by rw [Hid, hf.out]; simp [h1, h2, h4, h5]
        clear hf h1 h2
        go_enter Tryd.func20, Tryd.ntmps20
        go_wp2
        go_ret
        exact ⟨by rw [e.out]; rfl, rfl⟩
  · by_cases h5 : 100 < size
    · by_cases h6 : size ≤ 1024
      · have e : Hid (farB lp ls r size = true) := by rw [Hid, hf.out]; simp [h5, h6]
        clear hf h1 h2
        go_enter Tryd.func20, Tryd.ntmps20
        go_wp2
        go_ret
        exact ⟨by rw [e.out]; rfl, rfl⟩
      · have e : Hid (farB lp ls r size = false) := by rw [Hid, hf.out]; simp [h1, h2, h3, h6]
        clear hf h1 h2
        go_enter Tryd.func20, Tryd.ntmps20
        go_wp2
        go_ret
        exact ⟨by rw [e.out]; rfl, rfl⟩
    · have e : Hid (farB lp ls r size = false) := by rw [Hid, hf.out]; simp [h1, h2, h3, h5]
      clear hf h1 h2
      go_enter Tryd.func20, Tryd.ntmps20
      go_wp2
      go_ret
      exact ⟨by rw [e.out]; rfl, rfl⟩
/-- The world behind two literals of one byte. -/
def twoW (w : World) (x y : Int) : World := (w.alloc (.cells #[.int .u8 x] 5 (1, 2))).alloc (.cells #[.int .u8 y] 5 (1, 2))
theorem two_facts (w : World) (x y : BitVec 8) :
    Sl (twoW w x.toNat y.toNat) (.slice (some ⟨w.heap.size, 0, none⟩) 1 1) [x] ∧ Sl (twoW w x.toNat y.toNat) (.slice (some ⟨w.heap.size + 1, 0, none⟩) 1 1) [y] ∧ Below w.heap.size w (twoW w x.toNat y.toNat) := by
  have bb : Below w.heap.size w (twoW w x.toNat y.toNat) := ((Below.refl _ _).alloc (Nat.le_refl _) _).alloc (by simp) _
  have e1 : (w.alloc (.cells #[.int .u8 x.toNat] 5 (1, 2))).heap.size = w.heap.size + 1 := by simp
  have e2 : (twoW w x.toNat y.toNat).heap.size = w.heap.size + 1 + 1 := by simp [twoW]
  have ca : (twoW w x.toNat y.toNat).cell? ⟨w.heap.size, 0, none⟩ = some (.int .u8 x.toNat) :=
    Lib.cell?_alloc_marked _ (by rw [cell_of_row _ _ _ _ _ _ (heap_alloc_new w _)]; rfl)
  have cb : (twoW w x.toNat y.toNat).cell? ⟨w.heap.size + 1, 0, none⟩ = some (.int .u8 y.toNat) := by
    have h' := heap_alloc_new (w.alloc (.cells #[.int .u8 x.toNat] 5 (1, 2))) (.cells #[.int .u8 y.toNat] 5 (1, 2))
    rw [e1] at h'
    exact (cell_of_row _ _ _ _ _ _ h').trans rfl
  refine ⟨⟨_, _, rfl, by simp, fun _ => ⟨_, _, rfl, by omega, fun i hi => ?_⟩⟩, ⟨_, _, rfl, by simp, fun _ => ⟨_, _, rfl, by omega, fun i hi => ?_⟩⟩, bb⟩
  · have h0 : i = 0 := by simpa using hi
    subst h0
    exact ca
  · have h0 : i = 0 := by simpa using hi
    subst h0
    exact cb
def one32 (x : BitVec 8) : List (BitVec 8) := x :: List.replicate 31 0
theorem lit1 : (u8s (one32 1)).toArray = #[.int .u8 1, .int .u8 0, .int .u8 0, .int .u8 0, .int .u8 0, .int .u8 0, .int .u8 0, .int .u8 0, .int .u8 0, .int .u8 0, .int .u8 0, .int .u8 0, .int .u8 0, .int .u8 0, .int .u8 0, .int .u8 0, .int .u8 0, .int .u8 0, .int .u8 0, .int .u8 0, .int .u8 0, .int .u8 0, .int .u8 0, .int .u8 0, .int .u8 0, .int .u8 0, .int .u8 0, .int .u8 0, .int .u8 0, .int .u8 0, .int .u8 0, .int .u8 0] := by kernel_rfl
theorem lit3 : (u8s (one32 3)).toArray = #[.int .u8 3, .int .u8 0, .int .u8 0, .int .u8 0, .int .u8 0, .int .u8 0, .int .u8 0, .int .u8 0, .int .u8 0, .int .u8 0, .int .u8 0, .int .u8 0, .int .u8 0, .int .u8 0, .int .u8 0, .int .u8 0, .int .u8 0, .int .u8 0, .int .u8 0, .int .u8 0, .int .u8 0, .int .u8 0, .int .u8 0, .int .u8 0, .int .u8 0, .int .u8 0, .int .u8 0, .int .u8 0, .int .u8 0, .int .u8 0, .int .u8 0, .int .u8 0] := by kernel_rfl
theorem join13 : (jnOf (one32 1) (one32 3))[0]? = some (.int .u8 2) := by kernel_rfl
set_option maxRecDepth 100000 in
set_option maxHeartbeats 1000000 in
theorem alive3_any (w : World) (hL : Tabs w) : Calls Tryd.prog 21 #[] w fun e w' => e = .returned (.bool true) ∧ Below w.heap.size w w' := by
  have hj := fun wx => join_any (one32 1) (one32 3) rfl rfl wx
  rw [lit1, lit3] at hj
  have hj0 := join13
  obtain ⟨M, hM⟩ : ∃ M, M = jnOf (one32 1) (one32 3) := ⟨_, rfl⟩
  rw [← hM] at hj hj0
  have hix : ∀ w : World, (Instr.index 25 (.agg M) (.int .i64 0)).run Tryd.prog w = .ok (.int .u8 2) w := fun w =>
    run_index_row Tryd.underlying25 Tryd.underlying5 (by rfl) infoB M 0 (by decide) _ hj0 w
  have hbad := fun wx => skey_bad 0 1 (.slice none 0 0) (.slice none 0 0) wx (by decide)
  obtain ⟨L, hLL⟩ : ∃ L, L = stretched [112] [115] 2 40 := ⟨_, rfl⟩
  have hl40 : L.length = 40 := by rw [hLL, stretched_length]
  have hkey : ∀ (wx : World) (v u : Value), Sl wx v [112] → Sl wx u [115] → Tabs wx → Calls Tryd.prog 22 #[v, u, .int .i64 2, .int .i64 40] wx (KEnd wx L) := fun wx v u h1 h2 ht => by
    rw [hLL]
    exact skey_good [112] [115] 2 40 v u wx (by decide) (by decide) (by decide) (by simp) (by simp) h1 h2 ht
  have J := Lib.hid hj; have BAD := Lib.hid hbad; have KEY := Lib.hid hkey; have HL := Lib.hid hL
  have L40 := Lib.hid hl40
  clear hj hbad hkey hL hM hj0 hLL hl40
  have c1 := conv1 w 112
  have c2 := conv2 w 112 115
  go_enter Tryd.func21, Tryd.ntmps21
  go_wp2_with fail
  clear c1 c2
  obtain ⟨f1, f2, f3⟩ := two_facts w 112 115
  refine (KEY.out (twoW w 112 115) _ _ f1 f2 (HL.out.below f3 (Nat.le_refl _))).mono ?_
  rintro e w2 ⟨g, rfl, _, _, hb2⟩
  have B2 := Lib.hid (f3.trans (hb2.mono f3.size))
  rw [L40.out]
  clear f1 f2 f3 hb2
  go_wp2_with fail
  refine (BAD.out _).mono ?_
  rintro e w3 ⟨rfl, rfl⟩
  go_wp2_with fail
  refine (J.out _).mono ?_
  rintro e w4 ⟨rfl, hb4⟩
  have B4 := Lib.hid (B2.out.trans (hb4.mono B2.out.size))
  clear hb4
  go_wp2_with fail
  go_ret
  exact ⟨rfl, B4.out⟩
end Sha
end Go.Proofs.YtngegegomkclbaaDoor
