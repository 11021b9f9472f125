/- The document's May: its walk. -/
import Derived.Test.YtknaimpnkflfnaaAncRef
import Derived.Deep.Cut
namespace Go.Proofs.Ytknaimpnkflfnaa
namespace Sha
open Go.RowKit Mem
set_option maxRecDepth 100000 in
set_option maxHeartbeats 2000000 in
theorem rmay_any (a : Anc) (h : a.Wf) (w : World) : Calls Try.prog 12 #[.agg (ancC a)] w fun e w' => e = .returned (.bool (mayA a)) ∧ Below w.heap.size w w' := by
  have hA := at_new w (ancC a) 26
  have hb : Below w.heap.size w (w.alloc (.cells (ancC a) 26)) := (Below.refl _ _).alloc (Nat.le_refl _) _
  have c0 : (w.alloc (.cells (ancC a) 26)).cell? ⟨w.heap.size, 0, none⟩ = some (.int .i64 a.ver) := (hA.cell 0).trans (anc0 a)
  have c1 : (w.alloc (.cells (ancC a) 26)).cell? ⟨w.heap.size, 1, none⟩ = some (.int .i64 a.pages) := (hA.cell 1).trans (anc1 a)
  have c2 : (w.alloc (.cells (ancC a) 26)).cell? ⟨w.heap.size, 2, none⟩ = some (.int .u32 (a.epoch : Int)) := (hA.cell 2).trans (anc2 a)
  have c3 : (w.alloc (.cells (ancC a) 26)).cell? ⟨w.heap.size, 3, none⟩ = some (.int .i64 a.hp) := (hA.cell 3).trans (anc3 a)
  have c36 : (w.alloc (.cells (ancC a) 26)).cell? ⟨w.heap.size, 36, none⟩ = some (.int .i64 a.rp) := (hA.cell 36).trans (anc36 h)
  have c37 : (w.alloc (.cells (ancC a) 26)).cell? ⟨w.heap.size, 37, none⟩ = some (.int .u32 (a.re : Int)) := (hA.cell 37).trans (anc37 h)
  have IN := Lib.hid (fun z x y wx => rin_any z x y wx); have HB := Lib.hid hb
  obtain ⟨w1, hw1⟩ : ∃ w1, w1 = w.alloc (.cells (ancC a) 26) := ⟨_, rfl⟩
  rw [← hw1] at c0 c1 c2 c3 c36 c37 HB
  clear hA hb h
  by_cases h0 : 1 ≤ a.ver ∧ a.ver ≤ 2
  · by_cases h1 : 1 ≤ a.pages ∧ a.pages ≤ 216
    · by_cases h2 : 0 ≤ a.hp ∧ a.hp ≤ 1
      · by_cases h3 : 0 ≤ a.rp ∧ a.rp ≤ 1
        · by_cases h4 : a.re ≤ a.epoch
          · have d0 : decide (1 ≤ a.ver ∧ a.ver ≤ 2) = true := decide_eq_true h0
            have d1 : decide (1 ≤ a.pages ∧ a.pages ≤ 216) = true := decide_eq_true h1
            have d2 : decide (0 ≤ a.hp ∧ a.hp ≤ 1) = true := decide_eq_true h2
            have d3 : decide (0 ≤ a.rp ∧ a.rp ≤ 1) = true := decide_eq_true h3
            have dm : mayA a = true := by unfold mayA; rw [decide_eq_true h0, decide_eq_true h1, decide_eq_true h2, decide_eq_true h3, decide_eq_true h4]; rfl
            have g5 : (a.re : Int) ≤ (a.epoch : Int) := by omega
            have D4 := Lib.hid (decide_eq_true h4)
            rw [dm]
            have D0 := Lib.hid d0
            have D1 := Lib.hid d1
            have D2 := Lib.hid d2
            have D3 := Lib.hid d3
            clear dm d0 d1 d2 d3 h0 h1 h2 h3 h4
            go_enter Try.func12, Try.ntmps12
            go_upto_region 1 with fail
            rw [← hw1]
            clear hw1
            go_wp2_with fail
            refine (IN.out _ _ _ _).mono ?_
            rintro o w' ⟨rfl, rfl⟩
            rw [D0.out]
            go_wp2_with fail
            refine (IN.out _ _ _ _).mono ?_
            rintro o w' ⟨rfl, rfl⟩
            rw [D1.out]
            go_wp2_with fail
            refine (IN.out _ _ _ _).mono ?_
            rintro o w' ⟨rfl, rfl⟩
            rw [D2.out]
            go_wp2_with fail
            refine (IN.out _ _ _ _).mono ?_
            rintro o w' ⟨rfl, rfl⟩
            rw [D3.out]
            go_wp2_with fail
            go_ret
            exact ⟨by first | rfl | (rw [D4.out]; rfl), HB.out⟩
          · have d0 : decide (1 ≤ a.ver ∧ a.ver ≤ 2) = true := decide_eq_true h0
            have d1 : decide (1 ≤ a.pages ∧ a.pages ≤ 216) = true := decide_eq_true h1
            have d2 : decide (0 ≤ a.hp ∧ a.hp ≤ 1) = true := decide_eq_true h2
            have d3 : decide (0 ≤ a.rp ∧ a.rp ≤ 1) = true := decide_eq_true h3
            have dm : mayA a = false := by unfold mayA; rw [decide_eq_true h0, decide_eq_true h1, decide_eq_true h2, decide_eq_true h3, decide_eq_false h4]; rfl
            have g5 : ¬ (a.re : Int) ≤ (a.epoch : Int) := by omega
            have D4 := Lib.hid (decide_eq_false h4)
            rw [dm]
            have D0 := Lib.hid d0
            have D1 := Lib.hid d1
            have D2 := Lib.hid d2
            have D3 := Lib.hid d3
            clear dm d0 d1 d2 d3 h0 h1 h2 h3 h4
            go_enter Try.func12, Try.ntmps12
            go_upto_region 1 with fail
            rw [← hw1]
            clear hw1
            go_wp2_with fail
            refine (IN.out _ _ _ _).mono ?_
            rintro o w' ⟨rfl, rfl⟩
            rw [D0.out]
            go_wp2_with fail
            refine (IN.out _ _ _ _).mono ?_
            rintro o w' ⟨rfl, rfl⟩
            rw [D1.out]
            go_wp2_with fail
            refine (IN.out _ _ _ _).mono ?_
            rintro o w' ⟨rfl, rfl⟩
            rw [D2.out]
            go_wp2_with fail
            refine (IN.out _ _ _ _).mono ?_
            rintro o w' ⟨rfl, rfl⟩
            rw [D3.out]
            go_wp2_with fail
            go_ret
            exact ⟨by first | rfl | (rw [D4.out]; rfl), HB.out⟩
        · have d0 : decide (1 ≤ a.ver ∧ a.ver ≤ 2) = true := decide_eq_true h0
          have d1 : decide (1 ≤ a.pages ∧ a.pages ≤ 216) = true := decide_eq_true h1
          have d2 : decide (0 ≤ a.hp ∧ a.hp ≤ 1) = true := decide_eq_true h2
          have d3 : decide (0 ≤ a.rp ∧ a.rp ≤ 1) = false := decide_eq_false h3
          have dm : mayA a = false := by unfold mayA; rw [decide_eq_true h0, decide_eq_true h1, decide_eq_true h2, decide_eq_false h3]; rfl
          rw [dm]
          have D0 := Lib.hid d0
          have D1 := Lib.hid d1
          have D2 := Lib.hid d2
          have D3 := Lib.hid d3
          clear dm d0 d1 d2 d3 h0 h1 h2 h3
          go_enter Try.func12, Try.ntmps12
          go_upto_region 1 with fail
          rw [← hw1]
          clear hw1
          go_wp2_with fail
          refine (IN.out _ _ _ _).mono ?_
          rintro o w' ⟨rfl, rfl⟩
          rw [D0.out]
          go_wp2_with fail
          refine (IN.out _ _ _ _).mono ?_
          rintro o w' ⟨rfl, rfl⟩
          rw [D1.out]
          go_wp2_with fail
          refine (IN.out _ _ _ _).mono ?_
          rintro o w' ⟨rfl, rfl⟩
          rw [D2.out]
          go_wp2_with fail
          refine (IN.out _ _ _ _).mono ?_
          rintro o w' ⟨rfl, rfl⟩
          rw [D3.out]
          go_wp2_with fail
          go_ret
          exact ⟨rfl, HB.out⟩
      · have d0 : decide (1 ≤ a.ver ∧ a.ver ≤ 2) = true := decide_eq_true h0
        have d1 : decide (1 ≤ a.pages ∧ a.pages ≤ 216) = true := decide_eq_true h1
        have d2 : decide (0 ≤ a.hp ∧ a.hp ≤ 1) = false := decide_eq_false h2
        have dm : mayA a = false := by unfold mayA; rw [decide_eq_true h0, decide_eq_true h1, decide_eq_false h2]; rfl
        rw [dm]
        have D0 := Lib.hid d0
        have D1 := Lib.hid d1
        have D2 := Lib.hid d2
        clear dm d0 d1 d2 h0 h1 h2
        go_enter Try.func12, Try.ntmps12
        go_upto_region 1 with fail
        rw [← hw1]
        clear hw1
        go_wp2_with fail
        refine (IN.out _ _ _ _).mono ?_
        rintro o w' ⟨rfl, rfl⟩
        rw [D0.out]
        go_wp2_with fail
        refine (IN.out _ _ _ _).mono ?_
        rintro o w' ⟨rfl, rfl⟩
        rw [D1.out]
        go_wp2_with fail
        refine (IN.out _ _ _ _).mono ?_
        rintro o w' ⟨rfl, rfl⟩
        rw [D2.out]
        go_wp2_with fail
        go_ret
        exact ⟨rfl, HB.out⟩
    · have d0 : decide (1 ≤ a.ver ∧ a.ver ≤ 2) = true := decide_eq_true h0
      have d1 : decide (1 ≤ a.pages ∧ a.pages ≤ 216) = false := decide_eq_false h1
      have dm : mayA a = false := by unfold mayA; rw [decide_eq_true h0, decide_eq_false h1]; rfl
      rw [dm]
      have D0 := Lib.hid d0
      have D1 := Lib.hid d1
      clear dm d0 d1 h0 h1
      go_enter Try.func12, Try.ntmps12
      go_upto_region 1 with fail
      rw [← hw1]
      clear hw1
      go_wp2_with fail
      refine (IN.out _ _ _ _).mono ?_
      rintro o w' ⟨rfl, rfl⟩
      rw [D0.out]
      go_wp2_with fail
      refine (IN.out _ _ _ _).mono ?_
      rintro o w' ⟨rfl, rfl⟩
      rw [D1.out]
      go_wp2_with fail
      go_ret
      exact ⟨rfl, HB.out⟩
  · have d0 : decide (1 ≤ a.ver ∧ a.ver ≤ 2) = false := decide_eq_false h0
    have dm : mayA a = false := by unfold mayA; rw [decide_eq_false h0]; rfl
    rw [dm]
    have D0 := Lib.hid d0
    clear dm d0 h0
    go_enter Try.func12, Try.ntmps12
    go_upto_region 1 with fail
    rw [← hw1]
    clear hw1
    go_wp2_with fail
    refine (IN.out _ _ _ _).mono ?_
    rintro o w' ⟨rfl, rfl⟩
    rw [D0.out]
    go_wp2_with fail
    go_ret
    exact ⟨rfl, HB.out⟩
end Sha
end Go.Proofs.Ytknaimpnkflfnaa
