/- The document's own turning of a word, bit by bit: its walk; turning by two is turning by their sum. The document's own product of two numbers of 64 bits, and its whole cube roots: their walks. | Plain mathematics: the primes below q as the document collects them, the first 64 of them, and that their cube roots' fractions are the listed constants. | The walk of the document's primes: an outer loop over the numbers, an inner one over those that were collected, an append to the call's own slice. The document's store: Write refused, Tamper, Restore: walks. The document's store: Flush: its walk. Package pack's reader: Rest. -/
import Derived.Test.YtajdpbbbocnfiaaDoorBx17
import Derived.BigGuardPart
import Derived.Test.YtajdpbbbocnfiaaDoorBx03
import Derived.Test.YtajdpbbbocnfiaaDoorBx16
import Derived.Test.YtajdpbbbocnfiaaDoorBx18
namespace Go.Proofs.YtajdpbbbocnfiaaDoor
namespace Sha
open Go.RowKit Mem
/-- One step of the turning, bit by bit. -/
def st (x : BitVec 32) : BitVec 32 := x.rotateRight 1
def it (x : BitVec 32) : Nat → BitVec 32
  | 0 => x
  | k + 1 => st (it x k)
end Sha
end Go.Proofs.YtajdpbbbocnfiaaDoor
namespace Go.Proofs.YtajdpbbbocnfiaaDoor
namespace Sha
open Go.RowKit Mem
end Sha
end Go.Proofs.YtajdpbbbocnfiaaDoor
namespace Go.Proofs.YtajdpbbbocnfiaaDoor
namespace Sha
/-- The primes below q, as they are collected: each number that no earlier one divides. -/
def pr : Nat → List Nat
  | 0 => []
  | q + 1 => if 2 ≤ q ∧ (pr q).all (fun d => q % d != 0) then pr q ++ [q] else pr q
end Sha
end Go.Proofs.YtajdpbbbocnfiaaDoor
namespace Go.Proofs.YtajdpbbbocnfiaaDoor
namespace Sha
open Go.RowKit Mem
end Sha
end Go.Proofs.YtajdpbbbocnfiaaDoor
namespace Go.Proofs.YtajdpbbbocnfiaaDoor
namespace Sha
open Go.RowKit Mem
def stTamper (s : St6) (k : Nat) (x : List (BitVec 8)) : St6 := { s with b := laidB s.b k x }
end Sha
end Go.Proofs.YtajdpbbbocnfiaaDoor
namespace Go.Proofs.YtajdpbbbocnfiaaDoor
namespace Sha
open Go.RowKit Mem
/-- The blocks, when the first so many writes came. -/
def flushTo (l : List (Nat × List (BitVec 8))) (b : List (BitVec 8)) : Nat → List (BitVec 8)
  | 0 => b
  | j + 1 => laidB (flushTo l b j) ((l.getD j (0, [])).1 * 256) (l.getD j (0, [])).2
/-- All writes that wait are of blocks that there are, and whole. -/
def WfP (n : Nat) (l : List (Nat × List (BitVec 8))) : Prop := ∀ j, j < l.length → (l.getD j (0, [])).1 < n ∧ (l.getD j (0, [])).2.length = 256
theorem flushTo_length {n : Nat} {l : List (Nat × List (BitVec 8))} {b : List (BitVec 8)} (h : WfP n l) (hb : b.length = n * 256) : ∀ j, j ≤ l.length → (flushTo l b j).length = n * 256
  | 0, _ => hb
  | j + 1, hj => by
    have h1 := flushTo_length h hb j (by omega)
    obtain ⟨h2, h3⟩ := h j (by omega)
    rw [flushTo, laidL_length _ _ _ (by rw [h1, h3]; omega), h1]
def stFlush (s : St6) : St6 := { s with b := flushTo s.w s.b s.w.length, w := [], t := s.t ++ [-1] }
end Sha
end Go.Proofs.YtajdpbbbocnfiaaDoor
namespace Go.Proofs.YtajdpbbbocnfiaaDoor
namespace Sha
open Go.RowKit Mem
set_option maxRecDepth 100000 in
set_option maxHeartbeats 1000000 in
theorem prest_any (b : List (BitVec 8)) (e : Nat) (br : Nat) (w : World) (hr : RPk w br b e) (hb : b.length ≤ 8000) :
    Calls Tryd.prog 78 #[rp br] w fun o w' => o = .returned (.int .i64 ((rdRest b e : Nat) : Int)) ∧ PkEnd RPk w br b (rdRest b e) w' := by
  have hpe := fun e wx h => perr0_any b e br wx h
  by_cases he : e = 0
  · subst he
    have hfa := fun wx h => fail_any b 0 3 br wx h (by decide)
    have hr0 := hr
    obtain ⟨a, cap, hat, hsl⟩ := hr.h
    rw [lv_zero] at hat hsl
    have haz := areZeros_any b (.slice a b.length cap) w (by omega) hsl
    obtain ⟨m, hm⟩ : ∃ m, m = b.length := ⟨_, rfl⟩
    rw [← hm] at hat haz
    have c0 : w.cell? ⟨br, 0, none⟩ = some (.slice a m cap) := by rw [hat.cell]; rfl
    have PE := Lib.hid hpe; have FA := Lib.hid hfa; have HR := Lib.hid hr0
    clear hpe hfa hr hr0 hat hsl hm
    cases hz : allZ b with
    | false =>
      have h1 : rdRest b 0 = 3 := by rw [rdRest, if_pos ⟨rfl, hz⟩]
      rw [h1]
      rw [hz] at haz
      have AZ := Lib.hid haz
      clear h1 haz hz
      go_enter Tryd.func78, Tryd.ntmps78
      go_wp2_with fail
      refine (PE.out 0 w HR.out).mono ?_
      rintro o w' ⟨rfl, rfl⟩
      go_wp2_with fail
      refine AZ.out.mono ?_
      rintro o w' ⟨rfl, rfl⟩
      go_wp2_with fail
      refine (FA.out w HR.out).mono ?_
      rintro o w2 ⟨rfl, hp⟩
      have HP := Lib.hid (hp b)
      clear hp
      go_wp2_with fail
      refine (PE.out 3 w2 HP.out.r).mono ?_
      rintro o w' ⟨rfl, rfl⟩
      go_wp2_with fail
      go_ret
      exact ⟨rfl, HP.out⟩
    | true =>
      have h1 : rdRest b 0 = 0 := by rw [rdRest, if_neg (by rw [hz]; simp)]
      rw [h1]
      rw [hz] at haz
      have AZ := Lib.hid haz
      clear h1 haz hz
      go_enter Tryd.func78, Tryd.ntmps78
      go_wp2_with fail
      refine (PE.out 0 w HR.out).mono ?_
      rintro o w' ⟨rfl, rfl⟩
      go_wp2_with fail
      refine AZ.out.mono ?_
      rintro o w' ⟨rfl, rfl⟩
      go_wp2_with fail
      refine (PE.out 0 _ HR.out).mono ?_
      rintro o w' ⟨rfl, rfl⟩
      go_wp2_with fail
      go_ret
      exact ⟨rfl, rpk_same HR.out⟩
  · have h1 : rdRest b e = e := by rw [rdRest, if_neg (by simp [he])]
    have g1 : ¬ (e : Int) = 0 := by omega
    rw [h1]
    have PE := Lib.hid hpe; have HR := Lib.hid hr
    clear hpe hr he h1
    go_enter Tryd.func78, Tryd.ntmps78
    go_wp2_with fail
    refine (PE.out e w HR.out).mono ?_
    rintro o w' ⟨rfl, rfl⟩
    go_wp2_with fail
    refine (PE.out e _ HR.out).mono ?_
    rintro o w' ⟨rfl, rfl⟩
    go_wp2_with fail
    go_ret
    exact ⟨rfl, rpk_same HR.out⟩
end Sha
end Go.Proofs.YtajdpbbbocnfiaaDoor
