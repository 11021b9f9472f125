/- The walk of the document's primes: an outer loop over the numbers, an inner one over those that were collected, an append to the call's own slice. -/
import Derived.Test.YtngegegomkclbaaDoorShaPrimes
namespace Go.Proofs.YtngegegomkclbaaDoor
namespace Sha
open Go.RowKit Mem

def u64s (l : List Nat) : List Value := l.map fun (d : Nat) => Value.int .u64 (d : Int)
theorem own_open {w : World} {base : Nat} {e : TypeId} {v : Value} {l : List Nat} (h : w.ownsRow base e 1 v l.length (u64s l)) :
    ∃ a cap, v = .slice a l.length cap ∧ ∀ i, i < l.length → ∃ g, a = some ⟨g, 0, none⟩ ∧ w.cell? ⟨g, i, none⟩ = some (.int .u64 ((l.getD i 0 : Nat) : Int)) := by
  obtain ⟨_, h | ⟨g, cap, cur, rfl, hg, hh, hn, hc, hs, ht⟩⟩ := h
  · obtain ⟨rfl, h0⟩ := h
    exact ⟨none, 0, by rw [h0], fun i hi => by omega⟩
  · refine ⟨_, cap, rfl, fun i hi => ⟨g, rfl, ?_⟩⟩
    rw [cell_of_row w g i cur e (0, 0) hh]
    have h1 : (cur.toList.take (l.length * 1))[i]? = (u64s l)[i]? := by rw [ht]
    rw [List.getElem?_take, if_pos (by omega)] at h1
    rw [← Array.getElem?_toList, h1]
    simp [u64s, hi]
theorem take_all (l : List Nat) (q k : Nat) (h : k < l.length) : ((l.take (k + 1)).all (fun d => q % d != 0)) = (((l.take k).all (fun d => q % d != 0)) && (q % l.getD k 0 != 0)) := by
  have e : l.getD k 0 = l[k] := by simp [h]
  rw [List.take_succ_eq_append_getElem h, e, List.all_append]; simp
theorem ne_cast (q d : Nat) : (((q : Int) % (d : Int)) != 0) = (q % d != 0) := by
  rw [← Int.natCast_emod, Bool.eq_iff_iff]; simp; omega
theorem pr_yes (q : Nat) (h2 : 2 ≤ q) (h : (pr q).all (fun d => q % d != 0) = true) : pr (q + 1) = pr q ++ [q] := by
  rw [pr, if_pos ⟨h2, h⟩]
theorem pr_no (q : Nat) (h : (pr q).all (fun d => q % d != 0) = false) : pr (q + 1) = pr q := by
  rw [pr, if_neg (by rw [h]; simp)]
theorem info64u : (Tryd.prog.info? 53).map (fun i => (i.zero, i.size, i.bytes)) = some (some (.int .u64 0), 1, 8) := by kernel_rfl
def PRel (w : World) (v p : Value) (wr : World) : Prop :=
  ∃ q : Nat, 2 ≤ q ∧ q ≤ 312 ∧ p = .int .u64 (q : Int) ∧ wr.ownsRow w.heap.size 53 1 v (pr q).length (u64s (pr q)) ∧ Below w.heap.size w wr
def PEnd (n : Nat) (w : World) (e : Ending) (w' : World) : Prop :=
  ∃ v q, e = .returned v ∧ q ≤ 312 ∧ n ≤ (pr q).length ∧ w'.ownsRow w.heap.size 53 1 v (pr q).length (u64s (pr q)) ∧ Below w.heap.size w w'
set_option maxRecDepth 100000 in
set_option maxHeartbeats 1000000 in
theorem primes_any (n : Nat) (hn : n ≤ 64) (w : World) : Calls Tryd.prog 45 #[.int .i64 (n : Int)] w (PEnd n w) := by
  go_enter Tryd.func45, Tryd.ntmps45
  go_wp2_with fail
  go_loopw [3, 4, 5, 6] (fun v p _ _ wr => PRel w v p wr) (fun _ p _ _ _ => (312 - intOf p).toNat)
  case atStart => exact ⟨2, by omega, by omega, rfl, by have h := World.ownsRow_nil w w.heap.size 53 1; exact h, Below.refl _ _⟩
  case round =>
    obtain ⟨q, hq2, hq, rfl, hown, hb⟩ := hrel
    obtain ⟨a, cap, rfl, hcell⟩ := own_open hown
    obtain ⟨L, hL⟩ : ∃ L, L = (pr q).length := ⟨_, rfl⟩
    have hown' := hown
    rw [← hL] at hown' ⊢
    by_cases hlt : L < n
    · have hq' : q < 312 := pr_lt q (by omega)
      have HCE := Lib.hid hcell; have HOWN := Lib.hid hown'; have HB := Lib.hid hb; have HLL := Lib.hid hL
      clear hcell hown hown' hb hL
      go_wp2_with fail
      obtain ⟨wo, rfl⟩ : ∃ wo : World, wo = wr := ⟨_, rfl⟩
      go_loop [5, 6] (fun b i => ∃ k : Nat, k ≤ L ∧ i = .int .i64 k ∧ b = .bool (((pr q).take k).all (fun d => q % d != 0))) (fun _ i => L - (intOf i).toNat)
      case atStart => exact ⟨0, by omega, rfl, by simp⟩
      case round =>
        obtain ⟨k, hk, rfl, rfl⟩ := hrel
        obtain ⟨b, hbb⟩ : ∃ b, b = ((pr q).take k).all (fun d => q % d != 0) := ⟨_, rfl⟩
        rw [← hbb]
        have HBB := Lib.hid hbb; clear hbb
        by_cases hkl : k < L
        · obtain ⟨g, rfl, hc⟩ := HCE.out k (by rw [← HLL.out]; exact hkl)
          obtain ⟨d, hd⟩ : ∃ d, d = (pr q).getD k 0 := ⟨_, rfl⟩
          rw [← hd] at hc
          have hd2 : 2 ≤ d := by
            rw [hd]
            have hk' : k < (pr q).length := by rw [← HLL.out]; exact hkl
            refine pr_pos q _ ?_
            rw [List.getD_eq_getElem?_getD, List.getElem?_eq_getElem hk']; exact List.getElem_mem hk'
          have HD := Lib.hid hd; clear hd
          cases b
          · go_wp2
            go_round
            case rel => exact ⟨k + 1, by omega, by go_num, by rw [take_all _ _ _ (by rw [← HLL.out]; exact hkl), ← HBB.out]; rfl⟩
            case measure => simp [intOf]; omega
          · go_wp2
            go_round
            case rel => exact ⟨k + 1, by omega, by go_num, by rw [take_all _ _ _ (by rw [← HLL.out]; exact hkl), ← HBB.out, ← HD.out, ne_cast]; rfl⟩
            case measure => simp [intOf]; omega
        · have hkL : k = L := by omega
          have hall : (pr q).all (fun d => q % d != 0) = b := by
            rw [HBB.out, hkL, HLL.out, List.take_length]
          have hge : ¬ (k : Int) < (L : Int) := by omega
          have HALL := Lib.hid hall; have HBW := HB
          clear hkL hkl hall
          cases b
          · go_wp2_with fail
            go_roundw
            case rel =>
              refine ⟨q + 1, by omega, by omega, by go_num, ?_, HB.out⟩
              rw [pr_no q HALL.out, ← HLL.out]; exact HOWN.out
            case measure => simp [intOf]; omega
          · obtain ⟨i0, hi, hz0, hz1, hz2⟩ := info_parts info64u
            have HI0 := Lib.hid hi; have HZ0 := Lib.hid hz0; have HZ1 := Lib.hid hz1; have HZ2 := Lib.hid hz2
            clear hi hz0 hz1 hz2
            go_wp2_with (at_builtin; go_loud (refine wpList_append_own _ (by rfl) _ _ 71 (by rfl) w.heap.size 53 i0 (.int .u64 0) 1 8 Tryd.underlying71 HI0.out HZ0.out HZ1.out HZ2.out (by rfl) (by decide) _ L _ (by rfl) (HOWN.out.alloc _) ⟨wo.heap.size, 0, none⟩ 1 1 [.int .u64 (q : Int)] (by rfl) (by rfl) ?c1 ?c2 ?c3 ?c4 ?c5 ?_))
            case c2 => first | rfl | simp [Value.oneCell'] | (intro u hu; simp at hu; subst hu; rfl)
            case c3 => first | omega | (unfold maxLen; omega) | (simp [maxLen]; omega)
            case c4 => first | omega | (simp; omega)
            case c5 => have := HB.out.size; first | omega | (simp; omega)
            · intro v' w1 hown1 hgrow _
              have HO1 := Lib.hid hown1; have HG1 := Lib.hid hgrow
              clear hown1 hgrow
              go_wp2_with fail
              go_roundw
              case rel =>
                have hlen : (pr q ++ [q]).length = L + 1 := by rw [List.length_append, ← HLL.out]; rfl
                have hu : u64s (pr q ++ [q]) = u64s (pr q) ++ [Value.int .u64 (q : Int)] := by simp [u64s]
                refine ⟨q + 1, by omega, by omega, by go_num, ?_, ?_⟩
                · rw [pr_yes q hq2 HALL.out, hlen, hu]; exact HO1.out
                · have hal : Below w.heap.size w (wo.alloc (.cells #[.int .u64 (q : Int)] 53)) := HB.out.alloc HB.out.size _
                  exact hal.grown HG1.out hal.size (fun g hg => (HOWN.out.lt g hg).1)
              case measure => simp [intOf]; omega
    · have hge : ¬ (L : Int) < (n : Int) := by omega
      have HOWN := Lib.hid hown; have HB := Lib.hid hb; have HLL := Lib.hid hL
      clear hcell hown hown' hb hL
      go_wp2_with fail
      go_ret
      exact ⟨_, q, rfl, hq, by rw [← HLL.out]; omega, by first | exact HOWN.out | (have h := HOWN.out; rw [← HLL.out] at h ⊢; exact h), HB.out⟩
end Sha
end Go.Proofs.YtngegegomkclbaaDoor
