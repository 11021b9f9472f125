/- What the laws of layer 6 ask of the program's store: its contracts, over any account of it. -/
import Derived.Test.YtkgpcgkikenljaaDevPut
namespace Go.Proofs.Ytkgpcgkikenljaa
namespace Sha
open Go.RowKit Mem
/-- A store is as it must be; at most m writes wait, and were traced. -/
structure Ok6 (m : Nat) (s : St6) : Prop where
  n1 : 1 ≤ s.n
  n2 : s.n ≤ 1024
  b : s.b.length = s.n * 256
  wf : WfP s.n s.w
  sh : ∀ k, k < s.sh.length → (s.sh.getD k []).length = s.n * 256
  w : s.w.length ≤ m
  t : s.t.length ≤ m
  s16 : s.sh.length ≤ 16
theorem Ok6.mono {m m' : Nat} {s : St6} (h : Ok6 m s) (hm : m ≤ m') : Ok6 m' s := ⟨h.n1, h.n2, h.b, h.wf, h.sh, Nat.le_trans h.w hm, Nat.le_trans h.t hm, h.s16⟩
def stNew (n : Nat) : St6 := ⟨n, List.replicate (n * 256) 0, [], [], []⟩
theorem ok_new (n : Nat) (h1 : 1 ≤ n) (h2 : n ≤ 1024) : Ok6 0 (stNew n) :=
  ⟨h1, h2, by simp [stNew], fun j h => by simp [stNew] at h, fun k h => by simp [stNew] at h, by simp [stNew], by simp [stNew], by simp [stNew]⟩
theorem ok_write {m : Nat} {s : St6} (h : Ok6 m s) (n : Nat) (x : List (BitVec 8)) (hn : n < s.n) (hx : x.length = 256) : Ok6 (m + 1) (stWrite s n x) := by
  refine ⟨h.n1, h.n2, h.b, fun j hj => ?_, h.sh, ?_, ?_, h.s16⟩
  · simp only [stWrite, List.length_append, List.length_singleton] at hj
    by_cases hlt : j < s.w.length
    · have e : (s.w ++ [(n, x)]).getD j (0, []) = s.w.getD j (0, []) := by
        rw [List.getD_eq_getElem?_getD, List.getD_eq_getElem?_getD, List.getElem?_append_left hlt]
      show ((s.w ++ [(n, x)]).getD j (0, [])).1 < s.n ∧ ((s.w ++ [(n, x)]).getD j (0, [])).2.length = 256
      rw [e]; exact h.wf j hlt
    · have hj2 : j = s.w.length := by omega
      have e : (s.w ++ [(n, x)]).getD j (0, []) = (n, x) := by
        rw [List.getD_eq_getElem?_getD, List.getElem?_append_right (by omega), hj2]; simp
      show ((s.w ++ [(n, x)]).getD j (0, [])).1 < s.n ∧ ((s.w ++ [(n, x)]).getD j (0, [])).2.length = 256
      rw [e]; exact ⟨hn, hx⟩
  · have := h.w; simp [stWrite]; omega
  · have := h.t; simp [stWrite]; omega
theorem ok_flush {m : Nat} {s : St6} (h : Ok6 m s) : Ok6 (m + 1) (stFlush s) :=
  ⟨h.n1, h.n2, flushTo_length h.wf h.b _ (Nat.le_refl _), fun j hj => by simp [stFlush] at hj, h.sh, by simp [stFlush], by have := h.t; simp [stFlush]; omega, h.s16⟩
theorem ok_crash {m : Nat} {s : St6} (h : Ok6 m s) (keep : Nat) (torn parts : Int) : Ok6 m (stCrash s keep torn parts) :=
  ⟨h.n1, h.n2, crashTo_length keep torn parts h.wf h.b _ (Nat.le_refl _), fun j hj => by simp [stCrash] at hj, h.sh, by simp [stCrash], h.t, h.s16⟩
theorem ok_tamper {m : Nat} {s : St6} (h : Ok6 m s) (n k : Nat) (x : List (BitVec 8)) (hn : n < s.n) (hk : k + x.length ≤ 256) : Ok6 m (stTamper s (n * 256 + k) x) :=
  ⟨h.n1, h.n2, by show (laidL s.b (n * 256 + k) x).length = s.n * 256; have := h.b; rw [laidL_length _ _ _ (by omega), h.b], h.wf, h.sh, h.w, h.t, h.s16⟩
theorem ok_put {m : Nat} {s : St6} (h : Ok6 m s) (hs : s.sh.length < 16) : Ok6 m (stPut s) := by
  refine ⟨h.n1, h.n2, h.b, h.wf, fun k hk => ?_, h.w, h.t, by simp [stPut]; omega⟩
  simp only [stPut, List.length_append, List.length_singleton] at hk
  by_cases hlt : k < s.sh.length
  · have e : (s.sh ++ [s.b]).getD k [] = s.sh.getD k [] := by
      rw [List.getD_eq_getElem?_getD, List.getD_eq_getElem?_getD, List.getElem?_append_left hlt]
    show ((s.sh ++ [s.b]).getD k []).length = s.n * 256
    rw [e]; exact h.sh k hlt
  · have hj2 : k = s.sh.length := by omega
    have e : (s.sh ++ [s.b]).getD k [] = s.b := by
      rw [List.getD_eq_getElem?_getD, List.getElem?_append_right (by omega), hj2]; simp
    show ((s.sh ++ [s.b]).getD k []).length = s.n * 256
    rw [e]; exact h.b
theorem ok_restore {m : Nat} {s : St6} (h : Ok6 m s) (k : Nat) (hk : k < s.sh.length) : Ok6 m (stRestore s k) :=
  ⟨h.n1, h.n2, h.sh k hk, fun j hj => by simp [stRestore] at hj, h.sh, by simp [stRestore], h.t, h.s16⟩
def stRead (s : St6) (n : Nat) : List (BitVec 8) := readTo n (blkOf s.b n) s.w s.w.length
abbrev StAcc := Foot → Nat → World → St6 → Prop
/-- How a call that only tells ends. -/
def Told (w : World) (v : Value) (e : Ending) (w' : World) : Prop := e = .returned v ∧ Below w.heap.size w w'
structure DevC (R : StAcc) : Prop where
  lt : ∀ {F b w s}, R F b w s → ∀ k, F k → k < w.heap.size
  keep : ∀ {F b s} {w w' : World}, R F b w s → w.heap.size ≤ w'.heap.size → (∀ k, F k → k < w.heap.size → w'.heap[k]? = w.heap[k]?) → R F b w' s
  newBad : ∀ (n : Int) (w : World), -9223372036854775808 ≤ n → n ≤ 9223372036854775807 → (n < 1 ∨ 1024 < n) → Calls Try.prog 7 #[.int .i64 n] w (Told w (.tuple #[.pointer none, .int .i64 1]))
  new : ∀ (n : Nat) (w : World), 1 ≤ n → n ≤ 1024 → Calls Try.prog 7 #[.int .i64 (n : Int)] w fun e w' => ∃ b F, e = .returned (.tuple #[rq b, .int .i64 0]) ∧ R F b w' (stNew n) ∧ (∀ k, F k → w.heap.size ≤ k) ∧ Below w.heap.size w w'
  len : ∀ {F b s} (w : World), R F b w s → Ok6 1000 s → Calls Try.prog 12 #[rq b] w (Told w (.int .i64 (s.n : Int)))
  read : ∀ {F b s} (n : Nat) (w : World), R F b w s → Ok6 1000 s → n < s.n → Calls Try.prog 22 #[rq b, .int .i64 (n : Int)] w fun e w' => ∃ v, e = .returned (.tuple #[v, .int .i64 0]) ∧ SlB (fun k => w.heap.size ≤ k) w' v (stRead s n) ∧ Below w.heap.size w w'
  readBad : ∀ {F b s} (n : Int) (w : World), R F b w s → Ok6 1000 s → -9223372036854775808 ≤ n → n ≤ 9223372036854775807 → (n < 0 ∨ (s.n : Int) ≤ n) → Calls Try.prog 22 #[rq b, .int .i64 n] w fun e w' => ∃ v, e = .returned (.tuple #[v, .int .i64 1]) ∧ Sl w' v [] ∧ Below w.heap.size w w'
  write : ∀ {F b s} (n : Nat) (x : List (BitVec 8)) (v : Value) (w : World), R F b w s → Ok6 1000 s → Sl w v x → n < s.n → x.length = 256 → Calls Try.prog 20 #[rq b, .int .i64 (n : Int), v] w fun e w' => e = .returned (.int .i64 0) ∧ StEnd R F b w (stWrite s n x) w'
  writeBad : ∀ {F b s} (n : Int) (x : List (BitVec 8)) (v : Value) (w : World), R F b w s → Ok6 1000 s → Sl w v x → -9223372036854775808 ≤ n → n ≤ 9223372036854775807 → x.length ≤ 1000000 → (n < 0 ∨ (s.n : Int) ≤ n ∨ x.length ≠ 256) → Calls Try.prog 20 #[rq b, .int .i64 n, v] w fun e w' => e = .returned (.int .i64 1) ∧ StEnd R F b w s w'
  flush : ∀ {F b s} (w : World), R F b w s → Ok6 1000 s → Calls Try.prog 18 #[rq b] w fun e w' => e = .returned (.int .i64 (s.w.length : Int)) ∧ StEnd R F b w (stFlush s) w'
  waiting : ∀ {F b s} (w : World), R F b w s → Ok6 1000 s → Calls Try.prog 17 #[rq b] w fun e w' => ∃ v, e = .returned v ∧ SlR (fun _ => True) w' 1 v s.w.length (i64s (s.w.map fun p => (p.1 : Int))) ∧ Below w.heap.size w w'
  crash : ∀ {F b s} (keep : Nat) (torn parts : Int) (w : World), R F b w s → Ok6 1000 s → keep < 18446744073709551616 → -9223372036854775808 ≤ torn → torn ≤ 9223372036854775807 → -9223372036854775808 ≤ parts → parts ≤ 9223372036854775807 → Calls Try.prog 19 #[rq b, .int .u64 (keep : Int), .int .i64 torn, .int .i64 parts] w fun e w' => e = .returned (.tuple #[]) ∧ StEnd R F b w (stCrash s keep torn parts) w'
  tamper : ∀ {F b s} (n k : Nat) (x : List (BitVec 8)) (v : Value) (w : World), R F b w s → Ok6 1000 s → Sl w v x → n < s.n → k + x.length ≤ 256 → Calls Try.prog 24 #[rq b, .int .i64 (n : Int), .int .i64 (k : Int), v] w fun e w' => e = .returned (.int .i64 0) ∧ StEnd R F b w (stTamper s (n * 256 + k) x) w'
  tamperBad : ∀ {F b s} (n k : Int) (x : List (BitVec 8)) (v : Value) (w : World), R F b w s → Ok6 1000 s → Sl w v x → x.length ≤ 1000000 → -9223372036854775808 ≤ n → n ≤ 9223372036854775807 → -9223372036854775808 ≤ k → k ≤ 9223372036854775807 → (n < 0 ∨ (s.n : Int) ≤ n ∨ k < 0 ∨ 256 < k ∨ 256 - k < x.length) → Calls Try.prog 24 #[rq b, .int .i64 n, .int .i64 k, v] w fun e w' => e = .returned (.int .i64 1) ∧ StEnd R F b w s w'
  put : ∀ {F b s} (w : World), R F b w s → Ok6 1000 s → s.sh.length < 16 → Calls Try.prog 23 #[rq b] w fun e w' => e = .returned (.tuple #[.int .i64 (s.sh.length : Int), .int .i64 0]) ∧ StEnd R F b w (stPut s) w'
  putFull : ∀ {F b s} (w : World), R F b w s → Ok6 1000 s → 16 ≤ s.sh.length → Calls Try.prog 23 #[rq b] w fun e w' => e = .returned (.tuple #[.int .i64 0, .int .i64 5]) ∧ StEnd R F b w s w'
  restore : ∀ {F b s} (k : Nat) (w : World), R F b w s → Ok6 1000 s → k < s.sh.length → Calls Try.prog 25 #[rq b, .int .i64 (k : Int)] w fun e w' => e = .returned (.int .i64 0) ∧ StEnd R F b w (stRestore s k) w'
  restoreBad : ∀ {F b s} (k : Int) (w : World), R F b w s → Ok6 1000 s → -9223372036854775808 ≤ k → k ≤ 9223372036854775807 → (k < 0 ∨ (s.sh.length : Int) ≤ k) → Calls Try.prog 25 #[rq b, .int .i64 k] w fun e w' => e = .returned (.int .i64 6) ∧ StEnd R F b w s w'
  bytes : ∀ {F b s} (w : World), R F b w s → Ok6 1000 s → Calls Try.prog 14 #[rq b] w fun e w' => ∃ v, e = .returned v ∧ OwnB w' w.heap.size v s.b ∧ Below w.heap.size w w'
  trace : ∀ {F b s} (w : World), R F b w s → Ok6 1000 s → Calls Try.prog 16 #[rq b] w fun e w' => ∃ v, e = .returned v ∧ w'.ownsRow w.heap.size 3 1 v s.t.length (i64s s.t) ∧ Below w.heap.size w w'
  same : ∀ {F b s G c t} (w : World), R F b w s → R G c w t → Ok6 1000 s → Ok6 1000 t → Calls Try.prog 26 #[rq b, rq c] w (Told w (.bool (decide (s.b = t.b ∧ s.t = t.t))))
theorem DevC.below {R : StAcc} (hR : DevC R) {F : Foot} {b : Nat} {w w' : World} {s : St6} (h : R F b w s) (hb : Below w.heap.size w w') : R F b w' s := hR.keep h hb.size fun k _ hlt => hb.block k hlt
theorem DevC.chg {R : StAcc} (hR : DevC R) {F G : Foot} {b : Nat} {w w' : World} {s : St6} (h : R F b w s) (hc : Chg G w w') (hd : ∀ k, F k → ¬ G k) : R F b w' s := hR.keep h hc.size fun k hF hlt => hc.block k hlt (hd k hF)
end Sha
end Go.Proofs.Ytkgpcgkikenljaa
