/- A cache of a law's own; the law's alive. -/
import Derived.Test.YteiffdccfmfdbaaLruPEnd
import Derived.Test.YteiffdccfmfdbaaLruPPin
namespace Go.Proofs.Yteiffdccfmfdbaa
namespace Sha
open Go.RowKit Mem Lru
structure CMine (b room n : Nat) (l : List Hd) (w wr : World) : Prop where
  h : ∃ F, PCa F b wr room n l ∧ ∀ k, F k → w.heap.size ≤ k
  b : Below w.heap.size w wr
theorem CMine.below {b room n : Nat} {l : List Hd} {w wr wx : World} (h : CMine b room n l w wr) (hb : Below wr.heap.size wr wx) : CMine b room n l w wx := by
  obtain ⟨F, h1, h2⟩ := h.h
  exact ⟨⟨F, h1.keep hb.size fun k _ hlt => hb.block k hlt, h2⟩, h.b.trans (hb.mono h.b.size)⟩
theorem CMine.ok {b room n : Nat} {l : List Hd} {w wr : World} (h : CMine b room n l w wr) : Ok n l := by
  obtain ⟨F, h1, _⟩ := h.h
  exact h1.ok
theorem CMine.mono {b room n m : Nat} {l : List Hd} {w wr : World} (h : CMine b room n l w wr) (hm : n ≤ m) : CMine b room m l w wr := by
  obtain ⟨F, h1, h2⟩ := h.h
  exact ⟨⟨F, h1.mono hm, h2⟩, h.b⟩
/-- Its first block is a block of the program's cache. -/
theorem CMine.lt {b room n : Nat} {l : List Hd} {w wr : World} (h : CMine b room n l w wr) : b < wr.heap.size ∧ w.heap.size ≤ b := by
  obtain ⟨F, ⟨⟨bm, bp, v, f, h1⟩, _⟩, h2⟩ := h.h
  exact ⟨h1.row.lt, h2 b h1.bF⟩
theorem CEnd.mine {F : Foot} {b room n : Nat} {l : List Hd} {w wr w' : World} (he : CEnd PCa F b wr room n l w') (hF : ∀ k, F k → w.heap.size ≤ k) (hb : Below w.heap.size w wr) : CMine b room n l w w' := by
  obtain ⟨⟨F', h3, h4⟩, h5⟩ := he
  exact ⟨⟨F', h3, fun x hx => (h4 x hx).elim (hF x) (fun hh => Nat.le_trans hb.size hh)⟩, h5.below hb hF hb.size⟩
theorem m_new (room : Nat) (w wr : World) (h1 : 1 ≤ room) (h2 : room ≤ 1024) (hb : Below w.heap.size w wr) : Calls Try.prog 7 #[.int .i64 (room : Int)] wr fun e w' => ∃ b, e = .returned (.tuple #[cq b, .int .i64 0]) ∧ CMine b room 0 [] w w' := by
  refine (cnew_any room wr h1 h2).mono ?_
  rintro e w' ⟨b, F, rfl, h3, h4, h5⟩
  exact ⟨b, rfl, ⟨⟨F, h3, fun k hk => Nat.le_trans hb.size (h4 k hk)⟩, hb.trans (h5.mono hb.size)⟩⟩
section
variable {b room n : Nat} {l : List Hd} {w wr : World}
theorem m_put (h : CMine b room n l w wr) (x : Int) (p : List (BitVec 8)) (vp : Value) (hp : Sl wr vp p) (hpl : p.length ≤ 1000000) (hn : n ≤ 100000) :
    Calls Try.prog 19 #[cq b, .int .i64 x, vp] wr fun e w' => e = .returned (.tuple #[.int .i64 (putH room l x p).2.1, .int .i64 (putH room l x p).2.2]) ∧ CMine b room (n + 1) (putH room l x p).1 w w' := by
  obtain ⟨F, h1, h2⟩ := h.h
  refine (cput_any x p vp wr h1 hp hpl hn).mono ?_
  rintro e w' ⟨rfl, he⟩
  exact ⟨rfl, he.mine h2 h.b⟩
theorem m_pin (h : CMine b room n l w wr) (x : Int) (p : List (BitVec 8)) (vp : Value) (hp : Sl wr vp p) (hpl : p.length ≤ 1000000) (hn : n ≤ 100000) :
    Calls Try.prog 13 #[cq b, .int .i64 x, vp] wr fun e w' => e = .returned (.int .i64 (pinH l x p).2) ∧ CMine b room (n + 2) (pinH l x p).1 w w' := by
  obtain ⟨F, h1, h2⟩ := h.h
  refine (cpin_any x p vp wr h1 hp hpl hn).mono ?_
  rintro e w' ⟨rfl, he⟩
  exact ⟨rfl, he.mine h2 h.b⟩
theorem m_get (h : CMine b room n l w wr) (x : Int) (hx : wfI x) (hn : n ≤ 100000) :
    Calls Try.prog 10 #[cq b, .int .i64 x] wr fun e w' => GotH wr (getH l x).2 e w' ∧ CMine b room (n + 1) (getH l x).1 w w' := by
  obtain ⟨F, h1, h2⟩ := h.h
  refine (cget_any x wr h1 hx hn).mono ?_
  rintro e w' ⟨hg, he⟩
  exact ⟨hg, he.mine h2 h.b⟩
theorem m_unpin (h : CMine b room n l w wr) (x : Int) (hx : wfI x) (hn : n ≤ 100000) :
    Calls Try.prog 15 #[cq b, .int .i64 x] wr fun e w' => e = .returned (.tuple #[.int .i64 (unpH room l x).2.1, .bool (unpH room l x).2.2]) ∧ CMine b room (n + 1) (unpH room l x).1 w w' := by
  obtain ⟨F, h1, h2⟩ := h.h
  refine (cunpin_any x wr h1 hx hn).mono ?_
  rintro e w' ⟨rfl, he⟩
  exact ⟨rfl, he.mine h2 h.b⟩
theorem m_drop (h : CMine b room n l w wr) (x : Int) (hx : wfI x) : Calls Try.prog 17 #[cq b, .int .i64 x] wr fun e w' => e = .returned (.bool (drpH l x).2) ∧ CMine b room n (drpH l x).1 w w' := by
  obtain ⟨F, h1, h2⟩ := h.h
  refine (cdrop_any x wr h1 hx).mono ?_
  rintro e w' ⟨rfl, he⟩
  exact ⟨rfl, he.mine h2 h.b⟩
theorem m_has (h : CMine b room n l w wr) (x : Int) (hx : wfI x) : Calls Try.prog 24 #[cq b, .int .i64 x] wr fun e w' => e = .returned (.bool (lkH l x).isSome) ∧ w' = wr := by
  obtain ⟨F, h1, h2⟩ := h.h
  exact chas_any x wr h1 hx
theorem m_len (h : CMine b room n l w wr) : Calls Try.prog 22 #[cq b] wr fun e w' => e = .returned (.int .i64 (l.length : Int)) ∧ w' = wr := by
  obtain ⟨F, h1, h2⟩ := h.h
  exact clen_any wr h1
theorem m_room (h : CMine b room n l w wr) : Calls Try.prog 23 #[cq b] wr fun e w' => e = .returned (.int .i64 (room : Int)) ∧ w' = wr := by
  obtain ⟨F, h1, h2⟩ := h.h
  exact croom_any wr h1
theorem m_order (h : CMine b room n l w wr) (hn : n ≤ 100000) : Calls Try.prog 21 #[cq b] wr fun e w' => ∃ v, e = .returned v ∧ OwnI w' wr.heap.size v (items l) ∧ Below wr.heap.size wr w' := by
  obtain ⟨F, h1, h2⟩ := h.h
  exact corder_any wr h1 hn
theorem m_pinned (h : CMine b room n l w wr) (hn : n ≤ 100000) : Calls Try.prog 26 #[cq b] wr fun e w' => ∃ v, e = .returned v ∧ OwnI w' wr.heap.size v (sortI (items (pns l))) ∧ Below wr.heap.size wr w' := by
  obtain ⟨F, h1, h2⟩ := h.h
  exact cpinned_any wr h1 hn
end
set_option maxRecDepth 100000 in
set_option maxHeartbeats 2000000 in
theorem alive15_any (w : World) : Calls Try.prog 8 #[] w fun e w' => e = .returned (.bool true) ∧ Below w.heap.size w w' := by
  have hnew := m_new 1 w w (by decide) (by decide) (Below.refl _ _)
  have NW := Lib.hid hnew
  clear hnew
  go_enter Try.func8, Try.ntmps8
  go_wp2_with fail
  refine NW.out.mono ?_
  rintro e w1 ⟨b, rfl, h1⟩
  have hs1 : Sl (w1.alloc (.cells #[.int .u8 5] 5)) (.slice (some ⟨w1.heap.size, 0, none⟩) 1 1) [5#8] := at_sl (at_new w1 _ _) rfl
  have hb1 : Below w1.heap.size w1 (w1.alloc (.cells #[.int .u8 5] 5)) := (Below.refl _ _).alloc (Nat.le_refl _) _
  have h2 := m_put (h1.below hb1) 1 [5#8] _ hs1 (by decide) (by decide)
  have P2 := Lib.hid h2
  clear h1 hs1 hb1 h2 NW
  go_wp2_with fail
  refine P2.out.mono ?_
  rintro e w2 ⟨rfl, h2⟩
  have h3 := m_put h2 2 [] (.slice none 0 0) ⟨none, 0, rfl, Nat.le_refl _, fun h => absurd rfl h⟩ (by decide) (by decide)
  have P3 := Lib.hid h3
  clear h2 h3 P2
  go_wp2_with fail
  refine P3.out.mono ?_
  rintro e w3 ⟨rfl, h3⟩
  have h4 := m_pin h3 3 [] (.slice none 0 0) ⟨none, 0, rfl, Nat.le_refl _, fun h => absurd rfl h⟩ (by decide) (by decide)
  have P4 := Lib.hid h4
  clear h3 h4 P3
  go_wp2_with fail
  refine P4.out.mono ?_
  rintro e w4 ⟨rfl, h4⟩
  have h5 := m_order h4 (by decide)
  have P5 := Lib.hid h5; have H4 := Lib.hid h4
  clear h4 h5 P4
  go_wp2_with fail
  refine P5.out.mono ?_
  rintro e w5 ⟨v5, rfl, ho5, hb5⟩
  have hI : SlI w5 v5 [3, 2] := ownV_sli ho5
  have hh := m_has (H4.out.below hb5) 1 (by decide)
  have hB : Below w.heap.size w w5 := (H4.out.below hb5).b
  obtain ⟨a5, c5, rfl⟩ := SlI.hd hI
  obtain ⟨g, o, rfl, _, d0⟩ := sli_at (i := 0) hI rfl (by decide)
  obtain ⟨_, _, e1, _, d1⟩ := sli_at (i := 1) hI rfl (by decide)
  obtain ⟨rfl, rfl⟩ : g = _ ∧ o = _ := by injection e1 with e1; injection e1 with e1 e2 _; exact ⟨e1, e2⟩
  have HH := Lib.hid hh; have HB := Lib.hid hB
  clear ho5 hb5 hI hh hB e1 P5 H4
  have d0 : w5.cell? ⟨g, o, none⟩ = some (.int .i64 3) := d0
  have d1 : w5.cell? ⟨g, o + 1, none⟩ = some (.int .i64 2) := d1
  go_wp2_with (go_at_call 24; refine HH.out.mono ?_; rintro e w6 ⟨rfl, rfl⟩)
  go_ret
  exact ⟨rfl, HB.out⟩
end Sha
end Go.Proofs.Yteiffdccfmfdbaa
