/- Layer 8's EpochLeft, over any account of the program's meter. -/
import Derived.Test.YtmpibofkihfiiaaEpLive
namespace Go.Proofs.Ytmpibofkihfiiaa
namespace Sha
open Go.RowKit Mem
/-- In the loop: k epochs are left, none is reserved, j steps were done. -/
structure LfInv (R : EAcc) (b : Nat) (k j : Nat) (w wr : World) (m : Mtr) : Prop where
  h : EMine R b m w wr
  last : m.last = 4294967295 - (k : Int)
  now : m.now = 0
  ok : OkM j m
theorem lf_use {j : Nat} {m : Mtr} (h : OkM j m) (hm : ¬ m.last = 4294967295) (hn : m.now = 0) (b : Int) :
    m.reserve = (⟨m.last + 1, m.last + 1, m.l⟩, m.last + 1, 0) ∧ (Mtr.use ⟨m.last + 1, m.last + 1, m.l⟩ b).2 = (if b < 0 then 1 else 0) ∧ (Mtr.use ⟨m.last + 1, m.last + 1, m.l⟩ b).1.last = m.last + 1 ∧ (Mtr.use ⟨m.last + 1, m.last + 1, m.l⟩ b).1.now = m.last + 1 := by
  have h0 := h.l0
  have h1 : ¬ m.last + 1 = 0 := by omega
  have h2 : (m.last + 1, b) ∉ m.l := fun hp => by
    have h5 := (h.uses _ hp).2.1
    have h5 : m.last + 1 ≤ m.last := h5
    omega
  refine ⟨?_, ?_⟩
  · have hm' : ¬ m.last = Most := hm
    simp [Mtr.reserve, hn, hm']
  · unfold Mtr.use
    by_cases hb : b < 0
    · simp [hb]
    · simp [hb, h1, h2]
set_option maxRecDepth 100000 in
set_option maxHeartbeats 4000000 in
theorem left_core {R : EAcc} (C : EpC R) (x : BitVec 8) (b : Int) (hb : (Lit.int .i64 b).wf = true) (w : World) :
    Calls Try.prog 6 #[.int .u8 (x.toNat : Int), .int .i64 b] w fun e w' => e = .returned (.bool true) ∧ Below w.heap.size w w' := by
  have CC := Lib.hid C; have WB := Lib.hid hb
  have hx := x.isLt
  obtain ⟨y, hy⟩ : ∃ y, y = x.toNat := ⟨_, rfl⟩
  rw [← hy] at hx ⊢
  obtain ⟨c, hc⟩ : ∃ c : Nat, c = y % 40 := ⟨_, rfl⟩
  have hc1 : (y : Int) % 40 = (c : Int) := by omega
  have hc2 : c < 40 := by omega
  have NEW := Lib.hid (C.new (4294967295 - (c : Int)) w (by omega) (by omega))
  clear C hb hc hy
  go_enter Try.func6, Try.ntmps6
  go_wp2_with fail
  refine NEW.out.mono ?_
  rintro e w1 ⟨g, F, rfl, h1, h2, h3⟩
  have I1 : Hid (∃ m, LfInv R g c 0 w w1 m) := Lib.hid ⟨_, ⟨⟨F, h1, h2⟩, h3⟩, rfl, rfl, ok_mnew _ (by omega) (by omega)⟩
  clear h1 h2 h3 NEW
  go_wp2_with fail
  rw [hc1]
  clear hc1
  go_loopw [7] (fun i wr => ∃ k : Nat, k ≤ c ∧ i = .int .u32 k ∧ ∃ m, LfInv R g k (c - k) w wr m) (fun i _ => (intOf i).toNat)
  case atStart => exact ⟨c, Nat.le_refl _, rfl, by rw [Nat.sub_self]; exact I1.out⟩
  case round =>
    clear I1
    obtain ⟨k, hk, rfl, m, hI⟩ := hrel
    have ok := hI.ok.mono (show c - k ≤ 900 by omega)
    have hl := hI.last
    have hn := hI.now
    by_cases hk0 : 0 < k
    · have hk0' : (0 : Int) < (k : Int) := by omega
      obtain ⟨e1, e2, e3, e4⟩ := lf_use ok (by omega) hn b
      have ok1 := ok_reserve ok
      rw [e1] at ok1
      have hbh : b ≤ 9223372036854775807 := by
        have := WB.out
        simp [Lit.wf, IntKind.min, IntKind.max, IntKind.signed, IntKind.bits] at this
        omega
      have ok2 := ok_use hI.ok b hbh
      have okr : OkM (c - k) ⟨m.last + 1, m.last + 1, m.l⟩ := by have := ok_reserve hI.ok; rw [e1] at this; exact this
      have ok3 := ok_use okr b hbh
      obtain ⟨m2, hm2⟩ : ∃ m2, m2 = (Mtr.use ⟨m.last + 1, m.last + 1, m.l⟩ b).1 := ⟨_, rfl⟩
      rw [← hm2] at ok3 e3 e4
      have hl1 : m.last + 1 = 4294967295 - ((k : Int) - 1) := by omega
      have hd : m2.done = (⟨m2.last, 0, m2.l⟩, 0) := by
        have := ok.l0
        have h9 : ¬ m2.now = 0 := by rw [e4]; omega
        simp [Mtr.done, h9]
      have okd := ok_done ok3
      rw [hd] at okd
      obtain ⟨z, hz⟩ : ∃ z, z = m.last + 1 := ⟨_, rfl⟩
      rw [← hz] at e1 e2 e3 e4 hl1 ok1 hm2
      have hz0 : z = 4294967296 - (k : Int) := by omega
      have hz1 : ¬ z = 0 := by omega
      have hll : 4294967295 - m.last = (k : Int) := by omega
      have MI := Lib.hid hI.h; have OK := Lib.hid (ok.mono (show 900 ≤ 1000 by decide)); have OK1 := Lib.hid (ok1.mono (show 900 ≤ 1000 by decide)); have OK2 := Lib.hid (ok3.mono (show c - k + 1 ≤ 1000 by omega)); have OKD := Lib.hid okd
      have E1 := Lib.hid e1; have E2 := Lib.hid e2; have E3 := Lib.hid e3; have E4 := Lib.hid e4; have HM2 := Lib.hid hm2; have HD := Lib.hid hd; have HL := Lib.hid hll; have HZ := Lib.hid hz0
      clear hI ok hl hn e1 e2 e3 e4 ok1 ok2 ok3 okr okd hm2 hd hll hl1 hz hbh hz0
      go_wp2_with fail
      refine (ecalls_told CC.out MI.out fun F h => CC.out.left wr h OK.out).mono ?_
      rw [HL.out]
      rintro e w2 ⟨rfl, m2'⟩
      have M2 := Lib.hid m2'
      clear m2' MI
      go_wp2_with fail
      refine (ecalls_step M2.out fun F h => CC.out.reserve w2 h OK.out).mono ?_
      rw [E1.out]
      rintro e w3 ⟨rfl, m3⟩
      have M3 : Hid (EMine R g ⟨z, z, m.l⟩ w w3) := Lib.hid m3
      clear m3 M2
      go_wp2_with fail
      refine (ecalls_told CC.out M3.out fun F h => CC.out.last w3 h OK1.out).mono ?_
      rintro e w4 ⟨rfl, m4⟩
      have M4 := Lib.hid m4
      clear m4 M3
      go_wp2_with fail
      refine (ecalls_told CC.out M4.out fun F h => CC.out.now w4 h OK1.out).mono ?_
      rintro e w5 ⟨rfl, m5⟩
      have M5 := Lib.hid m5
      clear m5 M4
      go_wp2_with fail
      refine (ecalls_step M5.out fun F h => CC.out.use b w5 h OK1.out WB.out).mono ?_
      rw [← HM2.out, E2.out]
      rintro e w6 ⟨rfl, m6⟩
      have M6 := Lib.hid m6
      clear m6 M5
      by_cases gb : b < 0
      · rw [if_pos gb]
        go_wp2_with fail
        refine (ecalls_step M6.out fun F h => CC.out.done w6 h OK2.out).mono ?_
        rw [HD.out]
        rintro e w7 ⟨rfl, m7⟩
        have M7 := Lib.hid m7
        clear m7 M6
        go_wp2_with fail
        go_roundw
        case rel => exact ⟨k - 1, by omega, by go_num, _, M7.out, by show m2.last = _; rw [E3.out, HZ.out]; omega, rfl, OKD.out.mono (by omega)⟩
        case measure => simp [intOf]; omega
      · rw [if_neg gb]
        go_wp2_with fail
        refine (ecalls_step M6.out fun F h => CC.out.done w6 h OK2.out).mono ?_
        rw [HD.out]
        rintro e w7 ⟨rfl, m7⟩
        have M7 := Lib.hid m7
        clear m7 M6
        go_wp2_with fail
        go_roundw
        case rel => exact ⟨k - 1, by omega, by go_num, _, M7.out, by show m2.last = _; rw [E3.out, HZ.out]; omega, rfl, OKD.out.mono (by omega)⟩
        case measure => simp [intOf]; omega
    · have hk1 : k = 0 := by omega
      subst hk1
      have hge : ¬ ((0 : Nat) : Int) > 0 := by omega
      have e1 : m.reserve = (m, 0, 20) := by have hm : m.last = Most := by rw [hl]; rfl
                                             simp [Mtr.reserve, hn, hm]
      have e2 : m.use b = (m, 1) := by simp [Mtr.use, hn]
      have hll : 4294967295 - m.last = 0 := by omega
      have hbh := WB.out
      have MI := Lib.hid hI.h; have OK := Lib.hid (ok.mono (show 900 ≤ 1000 by decide)); have E1 := Lib.hid e1; have E2 := Lib.hid e2; have HL := Lib.hid hll
      clear hI ok hl hn e1 e2 hll hbh
      go_wp2_with fail
      refine (ecalls_step MI.out fun F h => CC.out.reserve wr h OK.out).mono ?_
      rw [E1.out]
      rintro e w2 ⟨rfl, m2⟩
      have M2 := Lib.hid m2
      clear m2 MI
      go_wp2_with fail
      refine (ecalls_told CC.out M2.out fun F h => CC.out.left w2 h OK.out).mono ?_
      rw [HL.out]
      rintro e w3 ⟨rfl, m3⟩
      have M3 := Lib.hid m3
      clear m3 M2
      go_wp2_with fail
      refine (ecalls_step M3.out fun F h => CC.out.use b w3 h OK.out WB.out).mono ?_
      rw [E2.out]
      rintro e w4 ⟨rfl, m4⟩
      have M4 := Lib.hid m4
      clear m4 M3
      go_wp2_with fail
      refine (alive8_any CC.out w4).mono ?_
      rintro e w5 ⟨rfl, hb5⟩
      have M5 := Lib.hid (M4.out.below CC.out hb5)
      clear hb5 M4
      go_wp2_with fail
      go_ret
      exact ⟨rfl, M5.out.b⟩
end Sha
end Go.Proofs.Ytmpibofkihfiiaa
