/- Layer 8's play: a step. -/
import Derived.Test.YtmpibofkihfiiaaEpC
namespace Go.Proofs.Ytmpibofkihfiiaa
namespace Sha
open Go.RowKit Mem
set_option maxRecDepth 100000 in
set_option maxHeartbeats 4000000 in
theorem play_any {R : EAcc} (C : EpC R) {F : Foot} {b : Nat} {m : Mtr} (s : Step8) (w : World) (h : R F b w m) (ok : OkM 1000 m) (hs : goodS8 s) :
    Calls Try.prog 9 #[mq b, .agg (stepC8 s)] w fun e w' => e = .returned (.tuple #[.int .u32 (m.step s).2.1, .int .i64 (m.step s).2.2]) ∧ EEnd R F b w (m.step s).1 w' := by
  have hb : Below w.heap.size w (w.alloc (.cells (stepC8 s) 31)) := (Below.refl _ _).alloc (Nat.le_refl _) _
  have hn := at_new w (stepC8 s) 31
  have h4 := C.below h hb
  have k0 : (w.alloc (.cells (stepC8 s) 31)).cell? ⟨w.heap.size, 0, none⟩ = some (.int .u8 (s.k.toNat : Int)) := by rw [hn.cell]; rfl
  have k1 : (w.alloc (.cells (stepC8 s) 31)).cell? ⟨w.heap.size, 1, none⟩ = some (.int .i64 s.b) := by rw [hn.cell]; rfl
  have hk := s.k.isLt
  obtain ⟨c, hc⟩ : ∃ c, c = s.k.toNat := ⟨_, rfl⟩
  rw [← hc] at k0 hk
  by_cases g0 : c % 4 = 0
  · have e0 : m.step s = m.reserve := by unfold Mtr.step; rw [← hc, if_pos g0]
    have hr := C.reserve _ h4 ok
    have g0' : ((c : Int) % 4) = 0 := by omega
    rw [e0]
    have HR := Lib.hid hr; have HB := Lib.hid hb
    clear hr hb h4 hn e0
    go_enter Try.func9, Try.ntmps9
    go_wp2_with fail
    refine HR.out.mono ?_
    rintro e w2 ⟨rfl, he⟩
    have HE := Lib.hid (EEnd.after HB.out he)
    clear he
    go_wp2_with fail
    go_ret2
    exact ⟨rfl, HE.out⟩
  · by_cases g2 : c % 4 = 2
    · have e0 : m.step s = (m.done.1, 0, m.done.2) := by unfold Mtr.step; rw [← hc, if_neg g0, if_pos g2]
      have hr := C.done _ h4 ok
      have g0' : ¬ ((c : Int) % 4) = 0 := by omega
      have g2' : ((c : Int) % 4) = 2 := by omega
      rw [e0]
      have HR := Lib.hid hr; have HB := Lib.hid hb
      clear hr hb h4 hn e0
      go_enter Try.func9, Try.ntmps9
      go_wp2_with fail
      refine HR.out.mono ?_
      rintro e w2 ⟨rfl, he⟩
      have HE := Lib.hid (EEnd.after HB.out he)
      clear he
      go_wp2_with fail
      go_ret2
      exact ⟨rfl, HE.out⟩
    · have e0 : m.step s = ((m.use s.b).1, 0, (m.use s.b).2) := by unfold Mtr.step; rw [← hc, if_neg g0, if_neg g2]
      have hr := C.use s.b _ h4 ok hs
      have g0' : ¬ ((c : Int) % 4) = 0 := by omega
      have g2' : ¬ ((c : Int) % 4) = 2 := by omega
      rw [e0]
      have HR := Lib.hid hr; have HB := Lib.hid hb
      clear hr hb h4 hn e0
      go_enter Try.func9, Try.ntmps9
      go_wp2_with fail
      refine HR.out.mono ?_
      rintro e w2 ⟨rfl, he⟩
      have HE := Lib.hid (EEnd.after HB.out he)
      clear he
      go_wp2_with fail
      go_ret2
      exact ⟨rfl, HE.out⟩
end Sha
end Go.Proofs.Ytmpibofkihfiiaa
