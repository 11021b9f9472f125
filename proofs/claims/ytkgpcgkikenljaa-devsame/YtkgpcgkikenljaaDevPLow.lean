/- Package dev's small functions, and the copies of the library's: walks. -/
import Derived.Test.YtkgpcgkikenljaaDevPAcc
namespace Go.Proofs.Ytkgpcgkikenljaa
namespace Sha
open Go.RowKit Mem
set_option maxRecDepth 100000 in
set_option maxHeartbeats 1000000 in
theorem plen_any (br bb n : Nat) (vw vs vt : Value) (w : World) (hrow : At w br (pRow bb n vw vs vt) 62) (hn : n ≤ 1024) :
    Calls Try.prog 12 #[rq br] w fun e w' => e = .returned (.int .i64 (n : Int)) ∧ w = w' := by
  obtain ⟨L, hL⟩ : ∃ L, L = n * 256 := ⟨_, rfl⟩
  have c0 : w.cell? ⟨br, 0, none⟩ = some (.slice (some ⟨bb, 0, none⟩) L L) := by rw [hrow.cell, hL]; rfl
  have hd : (L : Int) / 256 = (n : Int) := by omega
  have hb : L ≤ 1000000 := by omega
  have HD := Lib.hid hd
  clear hrow hL hd
  go_enter Try.func12, Try.ntmps12
  go_wp2_with fail
  go_ret
  exact ⟨by rw [HD.out]; rfl, rfl⟩
set_option maxHeartbeats 1000000 in
theorem pmade_any (br bb n : Nat) (vw vs vt : Value) (w : World) (hrow : At w br (pRow bb n vw vs vt) 62) (hn : n ≤ 1024) (h1 : 1 ≤ n) :
    Calls Try.prog 34 #[rq br] w fun e w' => e = .returned (.bool true) ∧ w = w' := by
  have hl := plen_any br bb n vw vs vt w hrow hn
  have HL := Lib.hid hl
  have g1 : decide (0 < n) = true := decide_eq_true (by omega)
  have G1 := Lib.hid g1
  clear hl hrow g1
  go_enter Try.func34, Try.ntmps34
  go_wp2_with fail
  refine HL.out.mono ?_
  rintro o w' ⟨rfl, rfl⟩
  go_wp2_with fail
  go_ret
  exact ⟨by rw [G1.out]; rfl, rfl⟩
set_option maxHeartbeats 1000000 in
theorem pcheck_good (br bb n q : Nat) (vw vs vt : Value) (w : World) (hrow : At w br (pRow bb n vw vs vt) 62) (hn : n ≤ 1024) (hq : q < n) :
    Calls Try.prog 40 #[rq br, .int .i64 (q : Int)] w fun e w' => e = .returned (.int .i64 0) ∧ w = w' := by
  have hl := plen_any br bb n vw vs vt w hrow hn
  have hm := pmade_any br bb n vw vs vt w hrow hn (by omega)
  have HL := Lib.hid hl; have HM := Lib.hid hm
  have g1 : ¬ (n : Int) ≤ (q : Int) := by omega
  clear hl hm hrow
  go_enter Try.func40, Try.ntmps40
  go_wp2_with fail
  refine HM.out.mono ?_
  rintro o w' ⟨rfl, rfl⟩
  go_wp2_with fail
  refine HL.out.mono ?_
  rintro o w' ⟨rfl, rfl⟩
  go_wp2_with fail
  go_ret
  exact ⟨rfl, rfl⟩
set_option maxHeartbeats 1000000 in
theorem pcheck_bad (br bb n : Nat) (q : Int) (vw vs vt : Value) (w : World) (hrow : At w br (pRow bb n vw vs vt) 62) (hn : n ≤ 1024) (h1 : 1 ≤ n) (hq : q < 0 ∨ (n : Int) ≤ q) :
    Calls Try.prog 40 #[rq br, .int .i64 q] w fun e w' => e = .returned (.int .i64 1) ∧ w = w' := by
  have hl := plen_any br bb n vw vs vt w hrow hn
  have hm := pmade_any br bb n vw vs vt w hrow hn h1
  have HL := Lib.hid hl; have HM := Lib.hid hm
  clear hl hm hrow
  by_cases h0 : q < 0
  · clear hq
    go_enter Try.func40, Try.ntmps40
    go_wp2_with fail
    refine HM.out.mono ?_
    rintro o w' ⟨rfl, rfl⟩
    go_wp2_with fail
    go_ret
    exact ⟨rfl, rfl⟩
  · have g1 : (n : Int) ≤ q := by omega
    clear hq
    go_enter Try.func40, Try.ntmps40
    go_wp2_with fail
    refine HM.out.mono ?_
    rintro o w' ⟨rfl, rfl⟩
    go_wp2_with fail
    refine HL.out.mono ?_
    rintro o w' ⟨rfl, rfl⟩
    go_wp2_with fail
    go_ret
    exact ⟨rfl, rfl⟩
set_option maxRecDepth 100000 in
set_option maxHeartbeats 1000000 in
theorem pblk_any (br bb n q : Nat) (vw vs vt : Value) (w : World) (hrow : At w br (pRow bb n vw vs vt) 62) (hn : n ≤ 1024) (hq : q < n) :
    Calls Try.prog 37 #[rq br, .int .i64 (q : Int)] w fun e w' => e = .returned (.slice (some ⟨bb, q * 256, none⟩) 256 (n * 256 - q * 256)) ∧ w = w' := by
  obtain ⟨L, hL⟩ : ∃ L, L = n * 256 := ⟨_, rfl⟩
  rw [← hL]
  have c0 : w.cell? ⟨br, 0, none⟩ = some (.slice (some ⟨bb, 0, none⟩) L L) := by rw [hrow.cell, hL]; rfl
  have g1 : q * 256 + 256 ≤ L := by omega
  clear hrow hL
  go_enter Try.func37, Try.ntmps37
  go_wp2_with (refine Mem.wpList_slice_mid (by rfl) 27 _ _ _ (by rfl) 5 Try.underlying27 infoB bb 0 L L (q * 256) ((q + 1) * 256) (by rfl) (by rfl) (by rfl) (by omega) (by omega) (by omega) ?_)
  go_ret
  exact ⟨by rw [show (q + 1) * 256 - q * 256 = 256 by omega]; rfl, rfl⟩
set_option maxHeartbeats 1000000 in
theorem ptorn_any (p : Int) (w : World) (_h0 : -9223372036854775808 ≤ p) (_h1 : p ≤ 9223372036854775807) :
    Calls Try.prog 39 #[.int .i64 p] w fun e w' => e = .returned (.int .i64 ((64 * cutParts p : Nat) : Int)) ∧ w = w' := by
  obtain ⟨c, hc⟩ : ∃ c, c = cutParts p := ⟨_, rfl⟩
  have hv := cutParts_val p
  have hle := cutParts_le p
  rw [← hc] at hv hle ⊢
  clear hc
  go_enter Try.func39, Try.ntmps39
  go_wp2_with fail
  go_ret
  exact ⟨by rw [show ((64 * c : Nat) : Int) = (c : Int) * 64 by omega]; rfl, rfl⟩
theorem own_none {e : TypeId} {z : Nat} (w : World) (B : Nat) (hB : B ≤ w.heap.size) : (w.alloc (.cells #[] e)).ownsRow B e z (.slice (some ⟨w.heap.size, 0, none⟩) 0 0) 0 [] := World.ownsRow_made w #[] 0 hB (Nat.zero_le _) (by simp)
set_option maxRecDepth 100000 in
set_option maxHeartbeats 1000000 in
/-- bytes.Clone: its own text is walked. -/
theorem pclone_any (l : List (BitVec 8)) (v : Value) (w : World) (bl : l.length ≤ 1000000) (hv : Sl w v l) : Calls Try.prog 35 #[v] w (PadEnd w l) := by
  have q22 : ∀ (w : World) (a : Option Addr) (n c n' c' : Nat), (binOp .eql 27 (.slice a n c) (.slice none n' c')).run Try.prog w = .ok (.bool a.isNone) w := fun w a n c n' c' => Lib.run_eql_slice_nil w _ _ a n c n' c' Try.underlying27
  have hv0 := hv
  obtain ⟨a0, cap, rfl, _, hr⟩ := hv
  obtain ⟨m, hm⟩ : ∃ m, m = l.length := ⟨_, rfl⟩
  cases a0 with
  | none =>
    have hl : l = [] := by
      rcases l with _ | ⟨x, l⟩
      · rfl
      · obtain ⟨_, _, h, _⟩ := hr (by simp)
        cases h
    subst hl
    clear hr hv0 hm
    go_enter Try.func35, Try.ntmps35
    go_wp2
    go_ret
    exact ⟨_, rfl, OwnB.nil _ _, Below.refl _ _⟩
  | some ad =>
    have hsl : Sl (w.alloc (.cells #[] 5)) (.slice (some ad) l.length cap) l := hv0.below ((Below.refl _ _).alloc (Nat.le_refl _) _)
    have hb0 : Below w.heap.size w (w.alloc (.cells #[] 5)) := (Below.refl _ _).alloc (Nat.le_refl _) _
    have how : OwnB (w.alloc (.cells #[] 5)) w.heap.size (.slice (some ⟨w.heap.size, 0, none⟩) 0 0) [] := own_none w w.heap.size (Nat.le_refl _)
    rw [← hm] at bl hsl ⊢
    have HV := Lib.hid hsl; have HM := Lib.hid hm; have HB := Lib.hid hb0; have HO := Lib.hid how
    clear hv0 hm hr hsl hb0 how
    go_enter Try.func35, Try.ntmps35
    go_wp2_with (at_builtin; refine wpList_append_bytes (by rfl) _ _ (by rfl) w.heap.size (.slice (some ⟨w.heap.size, 0, none⟩) 0 0) (.slice (some ad) m cap) [] l (by rfl) HO.out (by rfl) HV.out (by rw [List.length_nil, ← HM.out]; omega) (by simp) ?_; intro v5 w5 ho5 _ hb5; have O5 := Lib.hid ho5; have B5 := Lib.hid (HB.out.trans hb5); clear ho5 hb5)
    go_ret
    exact ⟨_, rfl, by simpa using O5.out, B5.out⟩
set_option maxRecDepth 100000 in
set_option maxHeartbeats 1000000 in
/-- slices.Clone of ints: its own text is walked. -/
theorem iclone_any {F : Foot} (l : List Int) (v : Value) (w : World) (bl : l.length ≤ 1000000) (hv : SlR F w 1 v l.length (i64s l)) : Calls Try.prog 36 #[v] w fun e w' => ∃ v', e = .returned v' ∧ w'.ownsRow w.heap.size 3 1 v' l.length (i64s l) ∧ Below w.heap.size w w' := by
  have q22 : ∀ (w : World) (a : Option Addr) (n c n' c' : Nat), (binOp .eql 30 (.slice a n c) (.slice none n' c')).run Try.prog w = .ok (.bool a.isNone) w := fun w a n c n' c' => Lib.run_eql_slice_nil w _ _ a n c n' c' Try.underlying30
  have hv0 := hv
  have hone := i64s_one l
  obtain ⟨_, a0, cap, rfl, _, hr⟩ := hv
  obtain ⟨m, hm⟩ : ∃ m, m = l.length := ⟨_, rfl⟩
  cases a0 with
  | none =>
    have hl : l = [] := by
      rcases l with _ | ⟨x, l⟩
      · rfl
      · obtain ⟨_, _, h, _⟩ := hr (by simp)
        cases h
    subst hl
    clear hr hv0 hm
    go_enter Try.func36, Try.ntmps36
    go_wp2
    go_ret
    exact ⟨_, rfl, ownsRow_nil0 _ _ _ _, Below.refl _ _⟩
  | some ad =>
    have hsl := SlR.rd (hv0.below ((Below.refl _ _).alloc (Nat.le_refl _) (.cells #[] 3)))
    have hb0 : Below w.heap.size w (w.alloc (.cells #[] 3)) := (Below.refl _ _).alloc (Nat.le_refl _) _
    have how : (w.alloc (.cells #[] 3)).ownsRow w.heap.size 3 1 (.slice (some ⟨w.heap.size, 0, none⟩) 0 0) 0 [] := own_none w w.heap.size (Nat.le_refl _)
    rw [← hm] at bl hsl ⊢
    have HV := Lib.hid hsl; have HB := Lib.hid hb0; have HO := Lib.hid how; have HONE := Lib.hid hone
    clear hv0 hm hr hsl hb0 how hone
    go_enter Try.func36, Try.ntmps36
    go_wp2_with (at_builtin; refine wpList_append_rows (by rfl) _ _ 30 (by rfl) (.slice (some ad) m cap) 0 m 1 (i64s l) (.int .i64 0) 8 elemRI (by rfl) (by decide) (by rfl) HO.out (by rfl) HV.out HONE.out (by omega) (by omega) (by simp) ?_; intro v5 w5 ho5 _ hb5; have O5 := Lib.hid ho5; have B5 := Lib.hid (HB.out.trans hb5); clear ho5 hb5)
    go_ret
    exact ⟨_, rfl, by simpa using O5.out, B5.out⟩
end Sha
end Go.Proofs.Ytkgpcgkikenljaa
