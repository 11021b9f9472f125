/- The laws of layer 6: alive: its walk, over the contracts. -/
import Derived.Test.YtkgpcgkikenljaaDevStep
namespace Go.Proofs.Ytkgpcgkikenljaa
namespace Sha
open Go.RowKit Mem
def X5 : List (BitVec 8) := List.replicate 256 5
def X6 : List (BitVec 8) := List.replicate 256 6
def sa1 : St6 := stWrite (stNew 2) 0 X5
def sa2 : St6 := stCrash sa1 0 0 4
def sa3 : St6 := stWrite sa2 0 X6
def sa4 : St6 := stFlush sa3
theorem sa2_b : sa2.b = List.replicate 512 0 := by
  show crashTo 0 0 4 sa1.w (List.replicate (2 * 256) 0) (0 + 1) = _
  rw [crashTo, if_pos (by decide)]
  rfl
theorem blk_zero (n : Nat) (h : 256 ≤ n) : blkOf (List.replicate n 0) 0 = List.replicate 256 0 := by
  rw [blkOf, Nat.zero_mul, List.drop_zero, List.take_replicate, Nat.min_eq_left h]
theorem sa2_read : stRead sa2 0 = List.replicate 256 0 := by
  show readTo 0 (blkOf sa2.b 0) [] 0 = _
  rw [sa2_b, readTo, blk_zero 512 (by decide)]
theorem sa4_read : stRead sa4 0 = X6 := by
  have hw : sa3.w = [(0, X6)] := rfl
  have h4 : sa4.b = laidL sa2.b 0 X6 := by
    have e : sa4.b = flushTo sa3.w sa3.b sa3.w.length := rfl
    have e2 : sa3.b = sa2.b := rfl
    rw [e, hw, e2, List.length_singleton, flushTo, flushTo, List.getD_cons_zero, Nat.zero_mul]
  show readTo 0 (blkOf sa4.b 0) [] 0 = _
  rw [readTo, h4, blkOf, Nat.zero_mul, List.drop_zero, laidL, List.take_zero, List.nil_append, List.take_left' (by rw [X6, List.length_replicate])]
theorem X5_len : X5.length = 256 := List.length_replicate
theorem X6_len : X6.length = 256 := List.length_replicate
theorem ok_sa1 : Ok6 1 sa1 := ok_write (ok_new 2 (by decide) (by decide)) 0 X5 (by decide) X5_len
theorem ok_sa2 : Ok6 1 sa2 := ok_crash ok_sa1 0 0 4
theorem ok_sa3 : Ok6 2 sa3 := ok_write ok_sa2 0 X6 (by decide) X6_len
theorem ok_sa4 : Ok6 3 sa4 := ok_flush ok_sa3
/-- An object of the call's own: all its memory was made since. -/
structure Mine (R : StAcc) (b : Nat) (s : St6) (w wr : World) : Prop where
  h : ∃ F, R F b wr s ∧ ∀ k, F k → w.heap.size ≤ k
  b : Below w.heap.size w wr
theorem Mine.below {R : StAcc} (C : DevC R) {b : Nat} {s : St6} {w wr wx : World} (h : Mine R b s w wr) (hb : Below wr.heap.size wr wx) : Mine R b s w wx := by
  obtain ⟨F, h1, h2⟩ := h.h
  exact ⟨⟨F, C.below h1 hb, h2⟩, h.b.trans (hb.mono h.b.size)⟩
theorem Mine.step {R : StAcc} {b : Nat} {s s' : St6} {w wr wx : World} (h : Mine R b s w wr) (k : ∀ F, R F b wr s → StEnd R F b wr s' wx) : Mine R b s' w wx := by
  obtain ⟨F, h1, h2⟩ := h.h
  obtain ⟨⟨F', h3, h4⟩, h5⟩ := k F h1
  exact ⟨⟨F', h3, fun x hx => (h4 x hx).elim (h2 x) (fun hh => Nat.le_trans h.b.size hh)⟩, h5.below h.b h2 h.b.size⟩
theorem calls_step {R : StAcc} {P : Program} {f : FuncId} {vs : Array Value} {b : Nat} {s s' : St6} {w wr : World} {v : Value} (h : Mine R b s w wr) (k : ∀ F, R F b wr s → Calls P f vs wr fun e w' => e = .returned v ∧ StEnd R F b wr s' w') :
    Calls P f vs wr fun e w' => e = .returned v ∧ Mine R b s' w w' := by
  obtain ⟨F, h1, h2⟩ := h.h
  refine (k F h1).mono ?_
  rintro e w' ⟨rfl, hs⟩
  obtain ⟨⟨F', h3, h4⟩, h5⟩ := hs
  exact ⟨rfl, ⟨⟨F', h3, fun x hx => (h4 x hx).elim (h2 x) (fun hh => Nat.le_trans h.b.size hh)⟩, h5.below h.b h2 h.b.size⟩⟩
/-- .. that holds apart from it. -/
structure Apart (R : StAcc) (b : Nat) (s : St6) (v : Value) (l : List (BitVec 8)) (w wr : World) : Prop where
  h : ∃ F G, R F b wr s ∧ (∀ k, F k → w.heap.size ≤ k ∧ ¬ G k) ∧ SlB G wr v l ∧ ∀ k, G k → k < wr.heap.size
  b : Below w.heap.size w wr
theorem Apart.sl {R : StAcc} {b : Nat} {s : St6} {v : Value} {l : List (BitVec 8)} {w wr : World} (h : Apart R b s v l w wr) : Sl wr v l := by
  obtain ⟨_, _, _, _, h, _⟩ := h.h; exact h.sl
theorem Apart.mine {R : StAcc} {b : Nat} {s : St6} {v : Value} {l : List (BitVec 8)} {w wr : World} (h : Apart R b s v l w wr) : Mine R b s w wr := by
  obtain ⟨F, _, h1, h2, _⟩ := h.h; exact ⟨⟨F, h1, fun k hk => (h2 k hk).1⟩, h.b⟩
theorem apart_of {R : StAcc} (C : DevC R) {b : Nat} {s : St6} {v : Value} {l : List (BitVec 8)} {w wr wx : World} (h : Mine R b s w wr) (hb : Below wr.heap.size wr wx) (hv : SlB (fun k => wr.heap.size ≤ k) wx v l) : Apart R b s v l w wx := by
  obtain ⟨F, h1, h2⟩ := h.h
  exact ⟨⟨F, fun k => wr.heap.size ≤ k ∧ k < wx.heap.size, C.below h1 hb, fun k hk => ⟨h2 k hk, fun hg => by have := C.lt h1 k hk; omega⟩, hv.mono fun k hk hlt => ⟨hk, hlt⟩, fun k hk => hk.2⟩, h.b.trans (hb.mono h.b.size)⟩
theorem Apart.below {R : StAcc} (C : DevC R) {b : Nat} {s : St6} {v : Value} {l : List (BitVec 8)} {w wr wx : World} (h : Apart R b s v l w wr) (hb : Below wr.heap.size wr wx) : Apart R b s v l w wx := by
  obtain ⟨F, G, h1, h2, h3, h4⟩ := h.h
  exact ⟨⟨F, G, C.below h1 hb, h2, h3.keep hb.size fun k _ hlt => hb.block k hlt, fun k hk => Nat.lt_of_lt_of_le (h4 k hk) hb.size⟩, h.b.trans (hb.mono h.b.size)⟩
theorem calls_apart {R : StAcc} {P : Program} {f : FuncId} {vs : Array Value} {b : Nat} {s s' : St6} {u v : Value} {l : List (BitVec 8)} {w wr : World} (h : Apart R b s u l w wr) (k : ∀ F, R F b wr s → Calls P f vs wr fun e w' => e = .returned v ∧ StEnd R F b wr s' w') :
    Calls P f vs wr fun e w' => e = .returned v ∧ Apart R b s' u l w w' := by
  obtain ⟨F, G, h1, h2, h3, h4⟩ := h.h
  refine (k F h1).mono ?_
  rintro e w' ⟨rfl, hs⟩
  obtain ⟨⟨F', h5, h6⟩, h7⟩ := hs
  refine ⟨rfl, ⟨⟨F', G, h5, fun x hx => (h6 x hx).elim (h2 x) (fun hh => ⟨Nat.le_trans h.b.size hh, fun hg => by have := h4 x hg; omega⟩), h3.keep h7.size fun k hk hlt => h7.block k hlt (fun hF => (h2 k hF).2 hk), fun k hk => Nat.lt_of_lt_of_le (h4 k hk) h7.size⟩, h7.below h.b (fun k hk => (h2 k hk).1) h.b.size⟩⟩
set_option maxRecDepth 100000 in
set_option maxHeartbeats 4000000 in
theorem alive6_any {R : StAcc} (C : DevC R) (w : World) : Calls Try.prog 9 #[] w fun e w' => e = .returned (.bool true) ∧ Below w.heap.size w w' := by
  have CC := Lib.hid C
  have hbk := fun (x : BitVec 8) wx => block_any x wx
  have hb5 := fun wx => block_any 5 wx
  have hb6 := fun wx => block_any 6 wx
  have hb5 : ∀ wx, Calls Try.prog 21 #[.int .u8 5] wx (SEnd wx X5) := hb5
  have hb6 : ∀ wx, Calls Try.prog 21 #[.int .u8 6] wx (SEnd wx X6) := hb6
  have NEW := Lib.hid (C.new 2 w (by decide) (by decide)); have BK5 := Lib.hid hb5; have BK6 := Lib.hid hb6
  clear C hbk hb5 hb6
  go_enter Try.func9, Try.ntmps9
  go_wp2_with fail
  refine NEW.out.mono ?_
  rintro e w1 ⟨b, F, rfl, h1, h2, h3⟩
  have M1 : Hid (Mine R b (stNew 2) w w1) := ⟨⟨F, h1, h2⟩, h3⟩
  clear h1 h2 h3 NEW
  go_wp2_with fail
  refine (BK5.out _).mono ?_
  rintro e w2 ⟨g, rfl, ha, hg, hb⟩
  have S2 := Lib.hid (at_sl ha rfl); have M2 := Lib.hid (M1.out.below CC.out hb)
  rw [X5_len] at S2
  clear ha hg hb M1 BK5
  rw [X5_len]
  go_wp2_with fail
  refine (calls_step M2.out fun F h => CC.out.write 0 X5 (.slice (some ⟨g, 0, none⟩) 256 256) w2 h ((ok_new 2 (by decide) (by decide)).mono (by decide)) S2.out (by decide) X5_len).mono ?_
  rintro e w3 ⟨rfl, m3⟩
  have M3 : Hid (Mine R b sa1 w w3) := m3
  clear m3 M2 S2
  go_wp2_with fail
  refine (calls_step M3.out fun F h => CC.out.crash 0 0 4 w3 h (ok_sa1.mono (by decide)) (by decide) (by decide) (by decide) (by decide) (by decide)).mono ?_
  rintro e w4 ⟨rfl, m4⟩
  have M4 : Hid (Mine R b sa2 w w4) := m4
  clear m4 M3
  go_wp2_with fail
  obtain ⟨F4, f4, _⟩ := M4.out.h
  refine (CC.out.read 0 w4 f4 (ok_sa2.mono (by decide)) (by decide)).mono ?_
  rintro e w5 ⟨v5, rfl, hs5, hb5⟩
  rw [sa2_read] at hs5
  obtain ⟨a5, c5, rfl⟩ := hs5.hd
  have P5 := Lib.hid (apart_of CC.out M4.out hb5 hs5)
  rw [List.length_replicate] at P5 ⊢
  clear hs5 hb5 M4 f4
  go_wp2_with fail
  refine (BK6.out _).mono ?_
  rintro e w6 ⟨g6, rfl, ha, hg, hb⟩
  have S6 := Lib.hid (at_sl ha rfl); have P6 := Lib.hid (P5.out.below CC.out hb)
  rw [X6_len] at S6
  clear ha hg hb P5 BK6
  rw [X6_len]
  go_wp2_with fail
  refine (calls_apart P6.out fun F h => CC.out.write 0 X6 (.slice (some ⟨g6, 0, none⟩) 256 256) w6 h (ok_sa2.mono (by decide)) S6.out (by decide) X6_len).mono ?_
  rintro e w7 ⟨rfl, p7⟩
  have P7 : Hid (Apart R b sa3 (.slice a5 256 c5) (List.replicate 256 0) w w7) := p7
  clear p7 P6 S6
  go_wp2_with fail
  refine (calls_apart P7.out fun F h => CC.out.flush w7 h (ok_sa3.mono (by decide))).mono ?_
  rintro e w8 ⟨rfl, p8⟩
  have P8 : Hid (Apart R b sa4 (.slice a5 256 c5) (List.replicate 256 0) w w8) := p8
  have hl1 : ((sa3.w.length : Nat) : Int) = 1 := rfl
  rw [hl1]
  clear p8 P7 hl1
  go_wp2_with fail
  obtain ⟨F8, f8, _⟩ := P8.out.mine.h
  refine (CC.out.read 0 w8 f8 (ok_sa4.mono (by decide)) (by decide)).mono ?_
  rintro e w9 ⟨v9, rfl, hs9, hb9⟩
  rw [sa4_read] at hs9
  obtain ⟨a9, c9, rfl⟩ := hs9.hd
  have P9 := Lib.hid (P8.out.below CC.out hb9)
  have hs9 := hs9.sl
  have hs5 := P9.out.sl
  obtain ⟨b1, o1, rfl, cx⟩ := sl_at (i := 0) (a := a5) (cap := c5) (l := List.replicate 256 0) (by rw [List.length_replicate]; exact hs5) (by simp)
  obtain ⟨b2, o2, rfl, cy⟩ := sl_at (i := 255) hs9 (by rw [X6_len]; decide)
  have hx0 : (List.replicate 256 (0 : BitVec 8)).getD 0 0 = 0 := rfl
  have hy0 : X6.getD 255 0 = 6 := by unfold X6; rw [List.getD_eq_getElem?_getD, List.getElem?_replicate]; rfl
  rw [hx0] at cx
  rw [hy0] at cy
  have cx : w9.cell? ⟨b1, o1, none⟩ = some (.int .u8 0) := cx
  have cy : w9.cell? ⟨b2, o2 + 255, none⟩ = some (.int .u8 6) := cy
  rw [X6_len]
  obtain ⟨F9, f9, _⟩ := P9.out.mine.h
  have TR := Lib.hid (CC.out.trace w9 f9 (ok_sa4.mono (by decide))); have BB := Lib.hid P9.out.b
  clear hs9 hs5 hb9 P8 f8 f9 P9 hx0 hy0
  go_wp2_with fail
  refine TR.out.mono ?_
  rintro e w10 ⟨v10, rfl, ho, hb⟩
  obtain ⟨a10, c10, rfl⟩ := rows_hd ho
  have hl3 : sa4.t.length = 3 := rfl
  rw [hl3]
  have BX := Lib.hid (BB.out.trans (hb.mono BB.out.size))
  clear ho hb hl3 TR
  go_wp2_with fail
  go_ret
  exact ⟨rfl, BX.out⟩
end Sha
end Go.Proofs.Ytkgpcgkikenljaa
