/- Package dev: a store that nobody made: nil, or the zero one; a store that was made beside nil: walks. -/
import Derived.Test.YtkgpcgkikenljaaDevProg
namespace Go.Proofs.Ytkgpcgkikenljaa
namespace Sha
open Go.RowKit Mem
def deadRow : Array Value := #[.slice none 0 0, .slice none 0 0, .slice none 0 0, .slice none 0 0]
/-- p is no store. -/
def Dead (w : World) (p : Value) : Prop := p = .pointer none ∨ ∃ b, p = rq b ∧ At w b deadRow 62
theorem dead_nil (w : World) : Dead w (.pointer none) := .inl rfl
theorem Dead.below {w w' : World} {p : Value} (h : Dead w p) (hb : Below w.heap.size w w') : Dead w' p :=
  h.imp id fun ⟨b, e, ha⟩ => ⟨b, e, ha.below hb ha.lt⟩
set_option maxHeartbeats 1000000 in
theorem dlen_any {w : World} {p : Value} (h : Dead w p) : Calls Try.prog 12 #[p] w fun e w' => e = .returned (.int .i64 0) ∧ w = w' := by
  rcases h with rfl | ⟨b, rfl, ha⟩
  · go_enter Try.func12, Try.ntmps12
    go_wp2_with fail
    go_ret
    exact ⟨rfl, rfl⟩
  · have c0 : w.cell? ⟨b, 0, none⟩ = some (.slice none 0 0) := by rw [ha.cell]; rfl
    clear ha
    go_enter Try.func12, Try.ntmps12
    go_wp2_with fail
    go_ret
    exact ⟨rfl, rfl⟩
set_option maxHeartbeats 1000000 in
theorem dmade_any {w : World} {p : Value} (h : Dead w p) : Calls Try.prog 34 #[p] w fun e w' => e = .returned (.bool false) ∧ w = w' := by
  have L := Lib.hid (dlen_any h)
  clear h
  go_enter Try.func34, Try.ntmps34
  go_wp2_with fail
  refine L.out.mono ?_
  rintro o w' ⟨rfl, rfl⟩
  go_wp2_with fail
  go_ret
  exact ⟨rfl, rfl⟩
set_option maxHeartbeats 1000000 in
theorem dcheck_any {w : World} {p : Value} (h : Dead w p) (n : Int) : Calls Try.prog 40 #[p, .int .i64 n] w fun e w' => e = .returned (.int .i64 2) ∧ w = w' := by
  have M := Lib.hid (dmade_any h)
  clear h
  go_enter Try.func40, Try.ntmps40
  go_wp2_with fail
  refine M.out.mono ?_
  rintro o w' ⟨rfl, rfl⟩
  go_wp2_with fail
  go_ret
  exact ⟨rfl, rfl⟩
set_option maxHeartbeats 1000000 in
theorem dread_any {w : World} {p : Value} (h : Dead w p) (n : Int) : Calls Try.prog 22 #[p, .int .i64 n] w (Told w (.tuple #[.slice none 0 0, .int .i64 2])) := by
  have hb3 : Below w.heap.size w (((w.alloc (.cells #[.int .i64 n] 3)).alloc (.cells #[.slice none 0 0] 27)).alloc (.cells #[.int .i64 0] 24)) := (((Below.refl _ w).alloc (Nat.le_refl _) _).alloc (by simp) _).alloc (by simp; omega) _
  have CK := Lib.hid (dcheck_any (h.below hb3) n)
  clear hb3 h
  go_enter Try.func22, Try.ntmps22
  go_wp2_with fail
  refine CK.out.mono ?_
  rintro o w' ⟨rfl, rfl⟩
  go_wp2_with fail
  have av := (at_new (w.alloc (.cells #[.int .i64 n] 3)) #[.slice none 0 0] 27).alloc (.cells #[.int .i64 2] 24)
  have ae := at_new ((w.alloc (.cells #[.int .i64 n] 3)).alloc (.cells #[.slice none 0 0] 27)) #[.int .i64 2] 24
  simp only [World.size_alloc] at av ae
  have c6 : (((w.alloc (.cells #[.int .i64 n] 3)).alloc (.cells #[.slice none 0 0] 27)).alloc (.cells #[.int .i64 2] 24)).cell? ⟨w.heap.size + 1, 0, none⟩ = some (.slice none 0 0) := by rw [av.cell]; rfl
  have c7 : (((w.alloc (.cells #[.int .i64 n] 3)).alloc (.cells #[.slice none 0 0] 27)).alloc (.cells #[.int .i64 2] 24)).cell? ⟨w.heap.size + 1 + 1, 0, none⟩ = some (.int .i64 2) := by rw [ae.cell]; rfl
  have hb : Below w.heap.size w (((w.alloc (.cells #[.int .i64 n] 3)).alloc (.cells #[.slice none 0 0] 27)).alloc (.cells #[.int .i64 2] 24)) := (((Below.refl _ w).alloc (Nat.le_refl _) _).alloc (by simp) _).alloc (by simp; omega) _
  refine bodyPost_ret (v := .tuple #[.slice none 0 0, .int .i64 2]) ?_ rfl ⟨rfl, hb⟩
  simp [results, Try.f22, go_sem, c6, c7]
set_option maxHeartbeats 1000000 in
theorem dput_any {w : World} {p : Value} (h : Dead w p) : Calls Try.prog 23 #[p] w fun e w' => e = .returned (.tuple #[.int .i64 0, .int .i64 2]) ∧ w = w' := by
  have M := Lib.hid (dmade_any h)
  clear h
  go_enter Try.func23, Try.ntmps23
  go_wp2_with fail
  refine M.out.mono ?_
  rintro o w' ⟨rfl, rfl⟩
  go_wp2_with fail
  go_ret2
  exact ⟨rfl, rfl⟩
set_option maxHeartbeats 1000000 in
theorem dcrash_any {w : World} {p : Value} (h : Dead w p) (q : Nat) (t z : Int) : Calls Try.prog 19 #[p, .int .u64 (q : Int), .int .i64 t, .int .i64 z] w fun e w' => e = .returned (.tuple #[]) ∧ w = w' := by
  have M := Lib.hid (dmade_any h)
  clear h
  go_enter Try.func19, Try.ntmps19
  go_wp2_with fail
  refine M.out.mono ?_
  rintro o w' ⟨rfl, rfl⟩
  go_wp2_with fail
  exact bodyPost_ret (results_none rfl _ _ _) rfl ⟨rfl, rfl⟩
set_option maxHeartbeats 1000000 in
theorem dwrite_any {w : World} {p : Value} (h : Dead w p) (n : Int) (v : Value) : Calls Try.prog 20 #[p, .int .i64 n, v] w fun e w' => e = .returned (.int .i64 2) ∧ w = w' := by
  have M := Lib.hid (dcheck_any h n)
  clear h
  go_enter Try.func20, Try.ntmps20
  go_wp2_with fail
  refine M.out.mono ?_
  rintro o w' ⟨rfl, rfl⟩
  go_wp2_with fail
  go_ret
  exact ⟨rfl, rfl⟩
set_option maxHeartbeats 1000000 in
theorem dtamper_any {w : World} {p : Value} (h : Dead w p) (n k : Int) (v : Value) : Calls Try.prog 24 #[p, .int .i64 n, .int .i64 k, v] w fun e w' => e = .returned (.int .i64 2) ∧ w = w' := by
  have M := Lib.hid (dcheck_any h n)
  clear h
  go_enter Try.func24, Try.ntmps24
  go_wp2_with fail
  refine M.out.mono ?_
  rintro o w' ⟨rfl, rfl⟩
  go_wp2_with fail
  go_ret
  exact ⟨rfl, rfl⟩
set_option maxHeartbeats 1000000 in
theorem drestore_any {w : World} {p : Value} (h : Dead w p) (k : Int) : Calls Try.prog 25 #[p, .int .i64 k] w fun e w' => e = .returned (.int .i64 2) ∧ w = w' := by
  have M := Lib.hid (dmade_any h)
  clear h
  go_enter Try.func25, Try.ntmps25
  go_wp2_with fail
  refine M.out.mono ?_
  rintro o w' ⟨rfl, rfl⟩
  go_wp2_with fail
  go_ret
  exact ⟨rfl, rfl⟩
set_option maxHeartbeats 1000000 in
theorem dflush_any {w : World} {p : Value} (h : Dead w p) : Calls Try.prog 18 #[p] w fun e w' => e = .returned (.int .i64 0) ∧ w = w' := by
  have M := Lib.hid (dmade_any h)
  clear h
  go_enter Try.func18, Try.ntmps18
  go_wp2_with fail
  refine M.out.mono ?_
  rintro o w' ⟨rfl, rfl⟩
  go_wp2_with fail
  go_ret
  exact ⟨rfl, rfl⟩
set_option maxHeartbeats 1000000 in
theorem dwaiting_any {w : World} {p : Value} (h : Dead w p) : Calls Try.prog 17 #[p] w fun e w' => e = .returned (.slice none 0 0) ∧ w = w' := by
  have M := Lib.hid (dmade_any h)
  clear h
  go_enter Try.func17, Try.ntmps17
  go_wp2_with fail
  refine M.out.mono ?_
  rintro o w' ⟨rfl, rfl⟩
  go_wp2_with fail
  go_ret
  exact ⟨rfl, rfl⟩
set_option maxHeartbeats 1000000 in
theorem dbytes_any {w : World} {p : Value} (h : Dead w p) : Calls Try.prog 14 #[p] w fun e w' => e = .returned (.slice none 0 0) ∧ w = w' := by
  have M := Lib.hid (dmade_any h)
  clear h
  go_enter Try.func14, Try.ntmps14
  go_wp2_with fail
  refine M.out.mono ?_
  rintro o w' ⟨rfl, rfl⟩
  go_wp2_with fail
  go_ret
  exact ⟨rfl, rfl⟩
set_option maxHeartbeats 1000000 in
theorem dtrace_any {w : World} {p : Value} (h : Dead w p) : Calls Try.prog 16 #[p] w fun e w' => e = .returned (.slice none 0 0) ∧ w = w' := by
  have M := Lib.hid (dmade_any h)
  clear h
  go_enter Try.func16, Try.ntmps16
  go_wp2_with fail
  refine M.out.mono ?_
  rintro o w' ⟨rfl, rfl⟩
  go_wp2_with fail
  go_ret
  exact ⟨rfl, rfl⟩
set_option maxHeartbeats 1000000 in
theorem dsame_any {w : World} {p : Value} (h : Dead w p) : Calls Try.prog 26 #[p, .pointer none] w fun e w' => e = .returned (.bool true) ∧ w = w' := by
  have M := Lib.hid (dmade_any h)
  have M2 := Lib.hid (dmade_any (dead_nil w))
  clear h
  go_enter Try.func26, Try.ntmps26
  go_wp2_with fail
  refine M.out.mono ?_
  rintro o w' ⟨rfl, rfl⟩
  go_wp2_with fail
  refine M.out.mono ?_
  rintro o w' ⟨rfl, rfl⟩
  go_wp2_with fail
  refine M2.out.mono ?_
  rintro o w' ⟨rfl, rfl⟩
  go_wp2_with fail
  go_ret
  exact ⟨rfl, rfl⟩
set_option maxHeartbeats 1000000 in
/-- One that was made is not the same as nil. -/
theorem psame_nil {F : Foot} {b : Nat} {s : St6} (w : World) (hr : PSt F b w s) (hok : Ok6 1000 s) : Calls Try.prog 26 #[rq b, .pointer none] w fun e w' => e = .returned (.bool false) ∧ w = w' := by
  obtain ⟨D, bb, vw, vs, vt, hv⟩ := hr
  have M := Lib.hid (pmade_any b bb s.n vw vs vt w hv.row hok.n2 hok.n1)
  have M2 := Lib.hid (dmade_any (dead_nil w))
  clear hv hok
  go_enter Try.func26, Try.ntmps26
  go_wp2_with fail
  refine M.out.mono ?_
  rintro o w' ⟨rfl, rfl⟩
  go_wp2_with fail
  refine M2.out.mono ?_
  rintro o w' ⟨rfl, rfl⟩
  go_wp2_with fail
  refine M.out.mono ?_
  rintro o w' ⟨rfl, rfl⟩
  go_wp2_with fail
  refine M2.out.mono ?_
  rintro o w' ⟨rfl, rfl⟩
  go_wp2_with fail
  go_ret
  exact ⟨rfl, rfl⟩
end Sha
end Go.Proofs.Ytkgpcgkikenljaa
