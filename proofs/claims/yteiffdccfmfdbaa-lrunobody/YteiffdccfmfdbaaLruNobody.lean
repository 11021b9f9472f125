/- Layer 15, LruNobody: a cache that nobody made holds nothing; what was told is the caller's own. For every input. -/
import Derived.Test.YteiffdccfmfdbaaLruNil
import Derived.Test.YteiffdccfmfdbaaLruFar
import Derived.Deep.Cut
import Derived.Deep.CutBlock
import Derived.Deep.DeepCutAuto
namespace Go.Proofs.Yteiffdccfmfdbaa
namespace Sha
open Go.RowKit Mem Lru
theorem infoU1 : (Try.prog.info? 5).map (·.size) = some 1 := by kernel_rfl
/-- An own slice of one byte, opened. -/
theorem own_one {w : World} {B : Nat} {v : Value} {x : BitVec 8} (h : OwnB w B v [x]) : ∃ g cap cur, v = .slice (some ⟨g, 0, none⟩) 1 cap ∧ At w g cur 5 ∧ 0 < cur.size ∧ w.cell? ⟨g, 0, none⟩ = some (.int .u8 (x.toNat : Int)) := by
  obtain ⟨a, cap, e, hc, hr⟩ := h.open
  obtain ⟨g, rfl, _, hlt, hcell⟩ := hr (by simp)
  rcases h.2 with ⟨hn, _⟩ | ⟨g2, cap2, cur, e2, hg, hh, hn, hc2, hs, ht⟩
  · rw [e] at hn; cases hn
  · rw [e] at e2
    injection e2 with e3 e4 e5
    injection e3 with e3
    injection e3 with e3 _ _
    subst e3
    have h0 := hcell 0 (by simp)
    refine ⟨g, cap, cur, e, hh, ?_, h0⟩
    rw [cell_of_row w g 0 cur _ (0, 0) hh] at h0
    exact (Array.getElem?_eq_some_iff.1 (by simpa using h0)).1
theorem chg_one {w w' : World} {g : Nat} (ho : ∀ k, k ≠ g → w'.heap[k]? = w.heap[k]?) (hk : ∀ B a, Below B a w → B ≤ g → Below B a w') : Chg (fun k => k = g) w w' := by
  have hb := hk 0 w (Below.refl _ _) (Nat.zero_le _)
  exact ⟨hb.os, hb.tape, hb.output, hb.size, fun k _ hne => ho k hne⟩
set_option maxRecDepth 100000 in
set_option maxHeartbeats 4000000 in
theorem nobody_core (K it : Int) (pa : Option Addr) (np pc : Nat) (w : World) : Calls Try.prog 5 #[.agg #[.int .u8 K, .int .i64 it, .slice pa np pc]] w fun e w' => e = .returned (.bool true) ∧ Below w.heap.size w w' := by
  have hX : At (((w.alloc (.cells #[.int .u8 K, .int .i64 it, .slice pa np pc] 34)).alloc (.cells zcC 59)).alloc (.cells #[.pointer none, .pointer (some ⟨w.heap.size + 1, 0, none⟩)] 23)) w.heap.size #[.int .u8 K, .int .i64 it, .slice pa np pc] 34 := ((at_new w _ _).alloc _).alloc _
  have hZ : At (((w.alloc (.cells #[.int .u8 K, .int .i64 it, .slice pa np pc] 34)).alloc (.cells zcC 59)).alloc (.cells #[.pointer none, .pointer (some ⟨w.heap.size + 1, 0, none⟩)] 23)) (w.heap.size + 1) zcC 59 := by
    have h := at_new (w.alloc (.cells #[.int .u8 K, .int .i64 it, .slice pa np pc] 34)) zcC 59
    have e : (w.alloc (.cells #[.int .u8 K, .int .i64 it, .slice pa np pc] 34)).heap.size = w.heap.size + 1 := by simp
    rw [e] at h
    exact h.alloc _
  have hR : At (((w.alloc (.cells #[.int .u8 K, .int .i64 it, .slice pa np pc] 34)).alloc (.cells zcC 59)).alloc (.cells #[.pointer none, .pointer (some ⟨w.heap.size + 1, 0, none⟩)] 23)) (w.heap.size + 1 + 1) #[.pointer none, .pointer (some ⟨w.heap.size + 1, 0, none⟩)] 23 := by
    have h := at_new ((w.alloc (.cells #[.int .u8 K, .int .i64 it, .slice pa np pc] 34)).alloc (.cells zcC 59)) #[.pointer none, .pointer (some ⟨w.heap.size + 1, 0, none⟩)] 23
    have e : ((w.alloc (.cells #[.int .u8 K, .int .i64 it, .slice pa np pc] 34)).alloc (.cells zcC 59)).heap.size = w.heap.size + 1 + 1 := by simp
    rw [e] at h
    exact h
  have hB : Below w.heap.size w (((w.alloc (.cells #[.int .u8 K, .int .i64 it, .slice pa np pc] 34)).alloc (.cells zcC 59)).alloc (.cells #[.pointer none, .pointer (some ⟨w.heap.size + 1, 0, none⟩)] 23)) := (((Below.refl _ _).alloc (Nat.le_refl _) _).alloc (by simp) _).alloc (by simp; omega) _
  obtain ⟨w0, hw0⟩ : ∃ w0, w0 = ((w.alloc (.cells #[.int .u8 K, .int .i64 it, .slice pa np pc] 34)).alloc (.cells zcC 59)).alloc (.cells #[.pointer none, .pointer (some ⟨w.heap.size + 1, 0, none⟩)] 23) := ⟨_, rfl⟩
  rw [← hw0] at hX hZ hR hB
  have HX := Lib.hid hX; have HZ := Lib.hid hZ; have HR := Lib.hid hR; have HB := Lib.hid hB; have HW : Hid (w0 = ((w.alloc (.cells #[.int .u8 K, .int .i64 it, .slice pa np pc] 34)).alloc (.cells #[.int .i64 0, .map none, .map none, .slice none 0 0] 59)).alloc (.cells #[.pointer none, .pointer (some ⟨w.heap.size + 1, 0, none⟩)] 23)) := Lib.hid hw0
  clear hX hZ hR hB hw0
  go_enter Try.func5, Try.ntmps5
  go_wp2_with fail
  rw [← HW.out]
  obtain ⟨x0, hx0⟩ : ∃ x0, x0 = w.heap.size := ⟨_, rfl⟩
  obtain ⟨z0, hz0⟩ : ∃ z0, z0 = w.heap.size + 1 := ⟨_, rfl⟩
  obtain ⟨r0, hr0⟩ : ∃ r0, r0 = w.heap.size + 1 + 1 := ⟨_, rfl⟩
  have HX' : Hid (At w0 x0 #[.int .u8 K, .int .i64 it, .slice pa np pc] 34) := Lib.hid (by rw [hx0]; exact HX.out)
  have HZ' : Hid (At w0 z0 zcC 59) := Lib.hid (by rw [hz0]; exact HZ.out)
  have HR' : Hid (At w0 r0 #[.pointer none, .pointer (some ⟨z0, 0, none⟩)] 23) := Lib.hid (by rw [hr0, hz0]; exact HR.out)
  rw [← hr0, ← hz0, ← hx0]
  have HB' : Hid (Below x0 w w0) := Lib.hid (by rw [hx0]; exact HB.out)
  have HX0 : Hid (x0 = w.heap.size) := Lib.hid hx0
  clear HW HX HZ HR HB hx0 hz0 hr0
  go_loopw [22] (fun a22 wr => ∃ k : Nat, k ≤ 2 ∧ a22 = .int .i64 (k : Int) ∧ Below w0.heap.size w0 wr) (fun i _ => 2 - (Go.RowKit.intOf i).toNat)
  case atStart => exact ⟨0, by omega, rfl, Below.refl _ _⟩
  case round =>
    obtain ⟨k, hk, rfl, hb⟩ := hrel
    generalize wr = w1 at hb ⊢
    by_cases hlt : k < 2
    · have hlt' : (k : Int) < 2 := by omega
      obtain ⟨pv, hpv, hno⟩ : ∃ pv, w1.cell? ⟨r0, k, none⟩ = some pv ∧ NoB w1 pv := by
        have h1 : w1.cell? ⟨r0, k, none⟩ = _ := (hb.cell (p := ⟨r0, k, none⟩) HR'.out.lt).trans (HR'.out.cell (i := k))
        rw [h1]
        match k, hlt with
        | 0, _ => exact ⟨_, rfl, .inl rfl⟩
        | 1, _ => exact ⟨_, rfl, .inr ⟨z0, rfl, HZ'.out.below hb HZ'.out.lt⟩⟩
      have hpv2 : w1.cell? ⟨r0, 0 + k, none⟩ = some pv := by rw [Nat.zero_add]; exact hpv
      have hX1 := HX'.out.below hb HX'.out.lt
      have c1 : w1.cell? ⟨x0, 1, none⟩ = some (.int .i64 it) := by rw [hX1.cell]; rfl
      have c2 : w1.cell? ⟨x0, 2, none⟩ = some (.slice pa np pc) := by rw [hX1.cell]; rfl
      have NB := Lib.hid hno; have X1 := Lib.hid hX1; have B1 := Lib.hid hb
      clear hno hX1 hb
      go_wp2_with (first
        | (go_at_call 19; refine (nput NB.out it _).mono ?_; rintro e w3 ⟨rfl, hw3⟩; have hw4 := hw3.symm; clear hw3; subst hw4)
        | (go_at_call 10; refine (nget NB.out it).mono ?_; rintro e w3 ⟨rfl, hw3⟩; have hw4 := hw3.symm; clear hw3; subst hw4)
        | (go_at_call 15; refine (nunpin NB.out it).mono ?_; rintro e w5 ⟨rfl, hb5⟩; have NB5 := Lib.hid (NB.out.below hb5); have B5 := Lib.hid (B1.out.trans (hb5.mono B1.out.size)); have d1 : w5.cell? ⟨x0, 1, none⟩ = some (.int .i64 it) := (hb5.cell (p := ⟨x0, 1, none⟩) X1.out.lt).trans c1; have d2 : w5.cell? ⟨x0, 2, none⟩ = some (.slice pa np pc) := (hb5.cell (p := ⟨x0, 2, none⟩) X1.out.lt).trans c2; clear hb5 hpv hpv2 c1 c2)
        | (go_at_call 13; refine (npin NB5.out it _).mono ?_; rintro e w3 ⟨rfl, hw3⟩; have hw4 := hw3.symm; clear hw3; subst hw4)
        | (go_at_call 24; refine (nhas NB5.out it).mono ?_; rintro e w3 ⟨rfl, hw3⟩; have hw4 := hw3.symm; clear hw3; subst hw4)
        | (go_at_call 17; refine (ndrop NB5.out it).mono ?_; rintro e w3 ⟨rfl, hw3⟩; have hw4 := hw3.symm; clear hw3; subst hw4)
        | (go_at_call 26; refine (npinned NB5.out).mono ?_; rintro e w6 ⟨⟨a6, k6, rfl⟩, hb6⟩; have NB6 := Lib.hid (NB5.out.below hb6); have B6 := Lib.hid (B5.out.trans (hb6.mono B5.out.size)); clear hb6 d1 d2)
        | (go_at_call 21; refine (norder NB6.out).mono ?_; rintro e w7 ⟨⟨a7, k7, rfl⟩, hb7⟩; have NB7 := Lib.hid (NB6.out.below hb7); have B7 := Lib.hid (B6.out.trans (hb7.mono B6.out.size)); clear hb7)
        | (go_at_call 22; refine (nlen NB7.out).mono ?_; rintro e w3 ⟨rfl, hw3⟩; have hw4 := hw3.symm; clear hw3; subst hw4)
        | (go_at_call 23; refine (nroom NB7.out).mono ?_; rintro e w3 ⟨rfl, hw3⟩; have hw4 := hw3.symm; clear hw3; subst hw4)
        | fail)
      go_roundw
      case rel => exact ⟨k + 1, by omega, by go_num, B7.out⟩
      case measure => simp [Go.RowKit.intOf]; omega
    · have hk2 : k = 2 := by omega
      subst hk2
      have hlo : Below w.heap.size w w1 := by rw [← HX0.out]; exact HB'.out.trans (hb.mono (by rw [HX0.out]; exact HB'.out.size))
      have hnew := m_new 2 w w1 (by decide) (by decide) hlo
      have NW := Lib.hid hnew
      clear hnew hlo hb HX' HZ' HR' HB' hlt hk
      go_wp2_with fail
      refine NW.out.mono ?_
      rintro e w2 ⟨b, rfl, h1⟩
      obtain ⟨g, hg⟩ : ∃ g, g = w2.heap.size := ⟨_, rfl⟩
      obtain ⟨w3, hw3⟩ : ∃ w3, w3 = w2.alloc (.cells #[.int .u8 7] 5) := ⟨_, rfl⟩
      have hal : Below w2.heap.size w2 w3 := by rw [hw3]; exact (Below.refl _ _).alloc (Nat.le_refl _) _
      have hsz3 : w3.heap.size = w2.heap.size + 1 := by rw [hw3]; simp
      have hA : At w3 g #[.int .u8 7] 5 := by rw [hw3, hg]; exact at_new w2 _ _
      have hsl : Sl w3 (.slice (some ⟨g, 0, none⟩) 1 1) [7#8] := at_sl hA rfl
      have hcp : CPr b 2 0 [] w w3 (fun j => j = g) := h1.pr.turn (Chg.of_below hal) (fun j hj => .inr (by omega)) fun j hj => by omega
      have hput := q_put hcp 1 [7#8] _ hsl (by simp) (by decide)
      have hl1 : (putH 2 [] 1 [7#8]).1 = [⟨1, [7#8], false⟩] := by rfl
      obtain ⟨l1, hl1'⟩ : ∃ l1, l1 = [(⟨1, [7#8], false⟩ : Hd)] := ⟨_, rfl⟩
      have hlk : lkH l1 1 = some ⟨1, [7#8], false⟩ := by rw [hl1']; rfl
      have hrs : (⟨1, [7#8], false⟩ : Hd) :: rsH l1 1 = l1 := by rw [hl1']; rfl
      rw [hl1, ← hl1'] at hput
      have PUT := Lib.hid hput; have AG := Lib.hid hA; have LK := Lib.hid hlk; have RS := Lib.hid hrs; have W3 := Lib.hid hw3; have HG := Lib.hid hg
      have W1 : wfI 1 := by decide
      clear hput hA hlk hrs hw3 hg hal hsz3 hsl hcp hl1 hl1' h1 NW
      go_wp2_with (first
        | (go_at_call 19; rw [← W3.out, ← HG.out]; refine PUT.out.mono ?_; rintro e w4 ⟨rfl, he⟩; have C4 := Lib.hid he.c; have A4 : Hid (At w4 g #[.int .u8 7] 5) := Lib.hid (at_same AG.out (he.k g rfl)); clear he)
        | (refine Mem.wpList_store_one (by rfl) 5 _ _ (by rfl) (by rfl) g 0 (.int .u8 8) (by rfl) (by rfl) (by rfl) infoU1 _ 5 A4.out (by simp) ?_; intro w5 _ ho hk; have C5 := Lib.hid (C4.out.turn (chg_one ho hk) (fun j hj => .inl hj) (fun j hj => Nat.lt_of_lt_of_le (C4.out.lt j hj) (chg_one ho hk).size)); clear ho hk)
        | (go_at_call 10; refine (q_get_far C5.out 1 W1 (by decide) LK.out).mono ?_; rw [RS.out]; rintro e w6 ⟨v6, rfl, ho6, hc6, _⟩; obtain ⟨g6, k6, cur6, rfl, ha6, hz6, d6⟩ := own_one ho6; have d6 : w6.cell? ⟨g6, 0, none⟩ = some (.int .u8 7) := d6; have C6 := Lib.hid hc6; have A6 := Lib.hid ha6; have Z6 := Lib.hid hz6; clear ho6 hc6 ha6 hz6)
        | (refine Mem.wpList_store_one (by rfl) 5 _ _ (by rfl) (by rfl) g6 0 (.int .u8 9) (by rfl) (by rfl) (by rfl) infoU1 _ 5 A6.out Z6.out ?_; intro w7 _ ho hk; have C7 := Lib.hid (C6.out.turn ((chg_one ho hk).mono fun j hj => .inl (.inr (by rw [hj]; rfl))) (fun j hj => .inl hj) (fun j hj => Nat.lt_of_lt_of_le (C6.out.lt j hj) (chg_one ho hk).size)); clear ho hk d6)
        | (go_at_call 10; refine (q_get_far C7.out 1 W1 (by decide) LK.out).mono ?_; rw [RS.out]; rintro e w8 ⟨v8, rfl, ho8, hc8, _⟩; obtain ⟨g8, k8, cur8, rfl, _, _, d8⟩ := own_one ho8; have d8 : w8.cell? ⟨g8, 0, none⟩ = some (.int .u8 7) := d8; have B8 := Lib.hid hc8.b; clear ho8 hc8)
        | (go_at_call 8; refine (alive15_any _).mono ?_; rintro e w9 ⟨rfl, hb9⟩; have B9 := Lib.hid (B8.out.trans (hb9.mono B8.out.size)); clear hb9 d8)
        | fail)
      go_ret
      exact ⟨rfl, B9.out⟩
end Sha
end Go.Proofs.Yteiffdccfmfdbaa
