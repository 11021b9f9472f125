/- The program's meter keeps the contracts; a nil one answers as the document says. -/
import Derived.Test.YtmpibofkihfiiaaEpPUse
namespace Go.Proofs.Ytmpibofkihfiiaa
namespace Sha
open Go.RowKit Mem
theorem epC : EpC PMt where
  lt := fun ⟨_, _, h⟩ k hk => h.lt k hk
  keep := fun ⟨mp, v, h⟩ hs hk => ⟨mp, v, h.keep hs hk⟩
  new := fun last w _ _ => pnew_any last w
  reserve := fun w h ok => preserve_any w h ok
  done := fun w h _ => pdone_any w h
  use := fun x w h ok hx => puse_any x w h ok hx
  last := fun w h _ => plast_any w h
  now := fun w h _ => pnow_any w h
  left := fun w h ok => pleft_any w h ok
  used := fun w h ok => pused_any w h ok
theorem nil_reserve (w : World) : Calls Try.prog 18 #[.pointer none] w (Told8 w (.tuple #[.int .u32 0, .int .i64 2])) := by
  go_enter Try.func18, Try.ntmps18
  go_wp2_with fail
  go_ret2
  exact ⟨rfl, Below.refl _ _⟩
theorem nil_done (w : World) : Calls Try.prog 20 #[.pointer none] w (Told8 w (.int .i64 2)) := by
  go_enter Try.func20, Try.ntmps20
  go_wp2_with fail
  go_ret
  exact ⟨rfl, Below.refl _ _⟩
theorem nil_use (x : Int) (w : World) : Calls Try.prog 19 #[.pointer none, .int .i64 x] w (Told8 w (.int .i64 2)) := by
  go_enter Try.func19, Try.ntmps19
  go_wp2_with fail
  go_ret
  exact ⟨rfl, Below.refl _ _⟩
theorem nil_last (w : World) : Calls Try.prog 13 #[.pointer none] w (Told8 w (.int .u32 0)) := by
  go_enter Try.func13, Try.ntmps13
  go_wp2_with fail
  go_ret
  exact ⟨rfl, Below.refl _ _⟩
theorem nil_now (w : World) : Calls Try.prog 14 #[.pointer none] w (Told8 w (.int .u32 0)) := by
  go_enter Try.func14, Try.ntmps14
  go_wp2_with fail
  go_ret
  exact ⟨rfl, Below.refl _ _⟩
theorem nil_left (w : World) : Calls Try.prog 15 #[.pointer none] w (Told8 w (.int .u32 0)) := by
  go_enter Try.func15, Try.ntmps15
  go_wp2_with fail
  go_ret
  exact ⟨rfl, Below.refl _ _⟩
theorem nil_used (w : World) : Calls Try.prog 16 #[.pointer none] w fun e w' => ∃ v, e = .returned v ∧ SlR (fun k => w.heap.size ≤ k) w' 2 v 0 [] ∧ Below w.heap.size w w' := by
  go_enter Try.func16, Try.ntmps16
  go_wp2_with fail
  go_ret
  exact ⟨_, rfl, SlR.nil _ _ _, Below.refl _ _⟩
theorem epNil : EpNil := ⟨nil_reserve, nil_done, fun x w _ => nil_use x w, nil_last, nil_now, nil_left, nil_used⟩
end Sha
end Go.Proofs.Ytmpibofkihfiiaa
