/- My own texts, merged. -/
import Derived.Test.YtajdpbbbocnfiaaGreatDoorBm13
import Derived.Test.YtajdpbbbocnfiaaGreatDoorBm03
import Derived.Test.YtajdpbbbocnfiaaGreatDoorBm01
import Derived.Test.YtajdpbbbocnfiaaGreatDoorBm09
import Derived.Great.Walk
import Derived.Test.YtajdpbbbocnfiaaGreatDoorBm15
import Derived.Test.YtajdpbbbocnfiaaGreatDoorBm16
namespace Go.Proofs.YtajdpbbbocnfiaaGreatDoor
namespace Sha
open Go.RowKit Mem
set_option maxRecDepth 100000
theorem sl_some {w : World} {v : Value} {p : List (BitVec 8)} (h : Sl w v p) (hne : 0 < p.length) : ∃ b o c, v = .slice (some ⟨b, o, none⟩) p.length c ∧ p.length ≤ c ∧ b < w.heap.size ∧ ∀ i, i < p.length → w.cell? ⟨b, o + i, none⟩ = some (.int .u8 ((p.getD i 0).toNat : Int)) := by
 obtain ⟨a, c, e, hc, hr⟩ := h
 obtain ⟨b, o, ea, hlt, hcell⟩ := hr (by intro e0; rw [e0] at hne; simp at hne)
 exact ⟨b, o, c, by rw [e, ea], hc, hlt, hcell⟩
theorem parse_piece (p : List (BitVec 8)) (i : Nat) (h : p.length = 256) (hi : i < 6) : parseRf (pieceN p i) = if 1 < ((pieceN p i).getD 0 0).toNat then (zref, 1) else (rfOf (pieceN p i), 0) := by
 unfold parseRf
 have hl := piece_length p i h hi
 by_cases g : 1 < ((pieceN p i).getD 0 0).toNat
 ·rw [if_pos (.inr g), if_pos g]
 ·rw [if_neg (by rintro (x | x); exact x hl; exact g x), if_neg g]
theorem allN_err (p : List (BitVec 8)) : (allN p).2 = 0 ∨ ((allN p).1 = [] ∧ ((allN p).2 = 1 ∨ (allN p).2 = 9)) := by
 unfold allN
 split
 ·exact .inr ⟨rfl, .inl rfl⟩
 ·split
  ·exact .inl rfl
  ·exact .inr ⟨rfl, .inr rfl⟩
end Sha
end Go.Proofs.YtajdpbbbocnfiaaGreatDoor
namespace Go.Proofs.YtajdpbbbocnfiaaGreatDoor
namespace Sha
open Go.RowKit Mem
def flushTo (l : List (Nat × List (BitVec 8))) (b : List (BitVec 8)) : Nat → List (BitVec 8)
 | 0 => b
 | j + 1 => laidB (flushTo l b j) ((l.getD j (0, [])).1 * 256) (l.getD j (0, [])).2
def WfP (n : Nat) (l : List (Nat × List (BitVec 8))) : Prop := ∀ j, j < l.length → (l.getD j (0, [])).1 < n ∧ (l.getD j (0, [])).2.length = 256
theorem flushTo_length {n : Nat} {l : List (Nat × List (BitVec 8))} {b : List (BitVec 8)} (h : WfP n l) (hb : b.length = n * 256) : ∀ j, j ≤ l.length → (flushTo l b j).length = n * 256
 | 0, _ => hb
 | j + 1, hj => by
  have h1 := flushTo_length h hb j (by omega)
  obtain ⟨h2, h3⟩ := h j (by omega)
  rw [flushTo, laidL_length _ _ _ (by rw [h1, h3]; omega), h1]
def stFlush (s : St6) : St6 := { s with b := flushTo s.w s.b s.w.length, w := [], t := s.t ++ [-1] }
structure Ok6 (m : Nat) (s : St6) : Prop where
 n1 : 1 ≤ s.n
 n2 : s.n ≤ 1024
 b : s.b.length = s.n * 256
 wf : WfP s.n s.w
 sh : ∀ k, k < s.sh.length → (s.sh.getD k []).length = s.n * 256
 w : s.w.length ≤ m
 t : s.t.length ≤ m
 s16 : s.sh.length ≤ 16
theorem Ok6.mono {m m' : Nat} {s : St6} (h : Ok6 m s) (hm : m ≤ m') : Ok6 m' s := ⟨h.n1, h.n2, h.b, h.wf, h.sh, Nat.le_trans h.w hm, Nat.le_trans h.t hm, h.s16⟩
def stNew (n : Nat) : St6 := ⟨n, List.replicate (n * 256) 0, [], [], []⟩
theorem ok_new (n : Nat) (h1 : 1 ≤ n) (h2 : n ≤ 1024) : Ok6 0 (stNew n) :=
 ⟨h1, h2, by simp [stNew], fun j h => by simp [stNew] at h, fun k h => by simp [stNew] at h, by simp [stNew], by simp [stNew], by simp [stNew]⟩
theorem ok_write {m : Nat} {s : St6} (h : Ok6 m s) (n : Nat) (x : List (BitVec 8)) (hn : n < s.n) (hx : x.length = 256) : Ok6 (m + 1) (dvWrite s n x) := by
 refine ⟨h.n1, h.n2, h.b, fun j hj => ?_, h.sh, ?_, ?_, h.s16⟩
 ·simp only [dvWrite, List.length_append, List.length_singleton] at hj
  by_cases hlt : j < s.w.length
  ·have e : (s.w ++ [(n, x)]).getD j (0, []) = s.w.getD j (0, []) := by
    rw [List.getD_eq_getElem?_getD, List.getD_eq_getElem?_getD, List.getElem?_append_left hlt]
   show ((s.w ++ [(n, x)]).getD j (0, [])).1 < s.n ∧ ((s.w ++ [(n, x)]).getD j (0, [])).2.length = 256
   rw [e]; exact h.wf j hlt
  ·have hj2 : j = s.w.length := by omega
   have e : (s.w ++ [(n, x)]).getD j (0, []) = (n, x) := by
    rw [List.getD_eq_getElem?_getD, List.getElem?_append_right (by omega), hj2]; simp
   show ((s.w ++ [(n, x)]).getD j (0, [])).1 < s.n ∧ ((s.w ++ [(n, x)]).getD j (0, [])).2.length = 256
   rw [e]; exact ⟨hn, hx⟩
 ·have := h.w; simp [dvWrite]; omega
 ·have := h.t; simp [dvWrite]; omega
theorem ok_flush {m : Nat} {s : St6} (h : Ok6 m s) : Ok6 (m + 1) (stFlush s) :=
 ⟨h.n1, h.n2, flushTo_length h.wf h.b _ (Nat.le_refl _), fun j hj => by simp [stFlush] at hj, h.sh, by simp [stFlush], by have := h.t; simp [stFlush]; omega, h.s16⟩
def stRead (s : St6) (n : Nat) : List (BitVec 8) := readTo n (blkOf s.b n) s.w s.w.length
abbrev StAcc := Foot → Nat → World → St6 → Prop
set_option maxRecDepth 100000 in
set_option maxHeartbeats 1000000 in
theorem prest_any (b : List (BitVec 8)) (e : Nat) (br : Nat) (w : World) (hr : RPk w br b e) (hb : b.length ≤ 8000) :
 Calls Tryz.prog 99 #[rp br] w fun o w' => o = .returned (.int .i64 ((rdRest b e : Nat) : Int)) ∧ PkEnd RPk w br b (rdRest b e) w' := by
 have hpe := fun e wx h => perr0_any b e br wx h
 by_cases he : e = 0
 ·subst he
  have hfa := fun wx h => fail_any b 0 3 br wx h (by decide)
  have hr0 := hr
  obtain ⟨a, cap, hat, hsl⟩ := hr.h
  rw [lv_zero] at hat hsl
  have haz := areZeros_any b (.slice a b.length cap) w (by omega) hsl
  obtain ⟨m, hm⟩ : ∃ m, m = b.length := ⟨_, rfl⟩
  rw [← hm] at hat haz
  have c0 : w.cell? ⟨br, 0, none⟩ = some (.slice a m cap) := by rw [hat.cell]; rfl
  have PE := zh hpe; have FA := zh hfa; have HR := zh hr0
  clear hpe hfa hr hr0 hat hsl hm
  cases hz : allZ b with
  | false =>
   have h1 : rdRest b 0 = 3 := by rw [rdRest, if_pos ⟨rfl, hz⟩]
   rw [h1]
   rw [hz] at haz
   have AZ := zh haz
   clear h1 haz hz
   go_enter Tryz.func99, Tryz.ntmps99
   go_wp2_with fail
   refine (PE.out 0 w HR.out).mono ?_
   rintro o w' ⟨rfl, rfl⟩
   go_wp2_with fail
   refine AZ.out.mono ?_
   rintro o w' ⟨rfl, rfl⟩
   go_wp2_with fail
   refine (FA.out w HR.out).mono ?_
   rintro o w2 ⟨rfl, hp⟩
   have HP := zh (hp b)
   clear hp
   go_wp2_with fail
   refine (PE.out 3 w2 HP.out.r).mono ?_
   rintro o w' ⟨rfl, rfl⟩
   go_wp2_with fail
   go_ret
   exact ⟨rfl, HP.out⟩
  | true =>
   have h1 : rdRest b 0 = 0 := by rw [rdRest, if_neg (by rw [hz]; simp)]
   rw [h1]
   rw [hz] at haz
   have AZ := zh haz
   clear h1 haz hz
   go_enter Tryz.func99, Tryz.ntmps99
   go_wp2_with fail
   refine (PE.out 0 w HR.out).mono ?_
   rintro o w' ⟨rfl, rfl⟩
   go_wp2_with fail
   refine AZ.out.mono ?_
   rintro o w' ⟨rfl, rfl⟩
   go_wp2_with fail
   refine (PE.out 0 _ HR.out).mono ?_
   rintro o w' ⟨rfl, rfl⟩
   go_wp2_with fail
   go_ret
   exact ⟨rfl, rpk_same HR.out⟩
 ·have h1 : rdRest b e = e := by rw [rdRest, if_neg (by simp [he])]
  have g1 : ¬ (e : Int) = 0 := by omega
  rw [h1]
  have PE := zh hpe; have HR := zh hr
  clear hpe hr he h1
  go_enter Tryz.func99, Tryz.ntmps99
  go_wp2_with fail
  refine (PE.out e w HR.out).mono ?_
  rintro o w' ⟨rfl, rfl⟩
  go_wp2_with fail
  refine (PE.out e _ HR.out).mono ?_
  rintro o w' ⟨rfl, rfl⟩
  go_wp2_with fail
  go_ret
  exact ⟨rfl, rpk_same HR.out⟩
end Sha
end Go.Proofs.YtajdpbbbocnfiaaGreatDoor
