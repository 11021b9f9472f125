/- Layer 8's alive: an epoch that is used. -/
import Derived.Test.YtmpibofkihfiiaaEpPlay
namespace Go.Proofs.Ytmpibofkihfiiaa
namespace Sha
open Go.RowKit Mem
def ma1 : Mtr := ⟨6, 6, []⟩
def ma2 : Mtr := ⟨6, 6, [(6, 3)]⟩
def ma3 : Mtr := ⟨6, 0, [(6, 3)]⟩
theorem ma1_is : (Mtr.new 5).reserve = (ma1, 6, 0) := rfl
theorem ma2_is : ma1.use 3 = (ma2, 0) := rfl
theorem ma2_again : ma2.use 3 = (ma2, 7) := rfl
theorem ma3_is : ma2.done = (ma3, 0) := rfl
theorem ok_ma1 : OkM 1000 ma1 := (ok_reserve (ok_mnew 5 (by decide) (by decide))).mono (by decide)
theorem ok_ma2 : OkM 1000 ma2 := (ok_use (ok_reserve (ok_mnew 5 (by decide) (by decide))) 3 (by decide)).mono (by decide)
theorem ok_ma3 : OkM 1000 ma3 := ok_done ok_ma2
theorem slr_hd {F : Foot} {w : World} {z n : Nat} {v : Value} {xs : List Value} (h : SlR F w z v n xs) : ∃ a c, v = .slice a n c := let ⟨_, a, c, e, _⟩ := h; ⟨a, c, e⟩
set_option maxRecDepth 100000 in
set_option maxHeartbeats 4000000 in
theorem alive8_any {R : EAcc} (C : EpC R) (w : World) : Calls Try.prog 17 #[] w fun e w' => e = .returned (.bool true) ∧ Below w.heap.size w w' := by
  have CC := Lib.hid C
  have NEW := Lib.hid (C.new 5 w (by decide) (by decide))
  clear C
  go_enter Try.func17, Try.ntmps17
  go_wp2_with fail
  refine NEW.out.mono ?_
  rintro e w1 ⟨b, F, rfl, h1, h2, h3⟩
  have M1 : Hid (EMine R b (Mtr.new 5) w w1) := Lib.hid ⟨⟨F, h1, h2⟩, h3⟩
  clear h1 h2 h3 NEW
  go_wp2_with fail
  refine (ecalls_step M1.out fun F h => CC.out.reserve w1 h ((ok_mnew 5 (by decide) (by decide)).mono (by decide))).mono ?_
  rw [ma1_is]
  rintro e w2 ⟨rfl, m2⟩
  have M2 : Hid (EMine R b ma1 w w2) := Lib.hid m2
  clear m2 M1
  go_wp2_with fail
  refine (ecalls_step M2.out fun F h => CC.out.use 3 w2 h ok_ma1 (by decide)).mono ?_
  rw [ma2_is]
  rintro e w3 ⟨rfl, m3⟩
  have M3 : Hid (EMine R b ma2 w w3) := Lib.hid m3
  clear m3 M2
  go_wp2_with fail
  refine (ecalls_step M3.out fun F h => CC.out.use 3 w3 h ok_ma2 (by decide)).mono ?_
  rw [ma2_again]
  rintro e w4 ⟨rfl, m4⟩
  have M4 : Hid (EMine R b ma2 w w4) := Lib.hid m4
  clear m4 M3
  go_wp2_with fail
  refine (ecalls_step M4.out fun F h => CC.out.done w4 h ok_ma2).mono ?_
  rw [ma3_is]
  rintro e w5 ⟨rfl, m5⟩
  have M5 : Hid (EMine R b ma3 w w5) := Lib.hid m5
  clear m5 M4
  go_wp2_with fail
  refine (ecalls_told CC.out M5.out fun F h => CC.out.now w5 h ok_ma3).mono ?_
  rintro e w6 ⟨rfl, m6⟩
  have M6 : Hid (EMine R b ma3 w w6) := Lib.hid m6
  clear m6 M5
  rw [show ma3.now = 0 from rfl]
  go_wp2_with fail
  refine (ecalls_used CC.out M6.out ok_ma3).mono ?_
  rintro e w7 ⟨v, rfl, hs, m7⟩
  obtain ⟨a, c, rfl⟩ := slr_hd hs
  rw [show ma3.l.length = 1 from rfl]
  have M7 := Lib.hid m7
  clear hs m7 M6
  go_wp2_with fail
  go_ret
  exact ⟨rfl, M7.out.b⟩
end Sha
end Go.Proofs.Ytmpibofkihfiiaa
