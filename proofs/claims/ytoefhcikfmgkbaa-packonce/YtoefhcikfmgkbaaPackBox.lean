/- Package pack's reader as one box: what is left (nothing behind an error), and its error. -/
import Derived.Test.YtoefhcikfmgkbaaPackLow
namespace Go.Proofs.Ytoefhcikfmgkbaa
namespace Sha
open Go.RowKit Mem
def lv (b : List (BitVec 8)) (e : Nat) : List (BitVec 8) := if e = 0 then b else []
theorem lv_zero (b : List (BitVec 8)) : lv b 0 = b := rfl
theorem lv_err (b : List (BitVec 8)) (e : Nat) (h : e ≠ 0) : lv b e = [] := if_neg h
structure RPk (w : World) (br : Nat) (b : List (BitVec 8)) (e : Nat) : Prop where
  h : ∃ a cap, At w br (rdRow (.slice a (lv b e).length cap) e) 58 ∧ Sl w (.slice a (lv b e).length cap) (lv b e)
theorem RPk.below {w w' : World} {br : Nat} {b : List (BitVec 8)} {e : Nat} (h : RPk w br b e) (hb : Below w.heap.size w w') : RPk w' br b e := by
  obtain ⟨a, cap, h1, h2⟩ := h.h
  exact ⟨a, cap, h1.below hb h1.lt, h2.below hb⟩
theorem RPk.but {w w' : World} {br bx : Nat} {b : List (BitVec 8)} {e : Nat} {C : Array Value} {t : TypeId} (h : RPk w br b e) (hC : At w bx C t) (hno : ∀ (k : Nat) (x : Int), C[k]? ≠ some (.int .u8 x)) (hne : br ≠ bx) (hb : But bx w w') : RPk w' br b e := by
  obtain ⟨a, cap, h1, h2⟩ := h.h
  exact ⟨a, cap, h1.but hb hne, h2.but_at hC hno hb⟩
theorem RPk.keep {w w' : World} {br : Nat} {b l : List (BitVec 8)} {e : Nat} {v : Value} (h : RPk w br b e) (hb : But br w w') (hs : Sl w v l) : Sl w' v l := by
  obtain ⟨a, cap, h1, _⟩ := h.h
  exact hs.but_at h1 (rdRow_no _ _ _ _) hb
theorem RPk.lt {w : World} {br : Nat} {b : List (BitVec 8)} {e : Nat} (h : RPk w br b e) : br < w.heap.size := by
  obtain ⟨a, cap, h1, _⟩ := h.h
  exact h1.lt
theorem rpk_same {w : World} {br : Nat} {b : List (BitVec 8)} {e : Nat} (h : RPk w br b e) : PEnd RPk w br b e w := ⟨h, But.refl _ _, fun _ _ h _ => h⟩
theorem rpk_left {w : World} {br : Nat} {b b' : List (BitVec 8)} (h : RPk w br b 0) (a' : Option Addr) (n' cap' : Nat) (hn : n' = b'.length) (hs : Sl w (.slice a' n' cap') b') : PEnd RPk w br b' 0 (w.setCell ⟨br, 0, none⟩ (.slice a' n' cap')) := by
  subst hn
  obtain ⟨a, cap, h1, h2⟩ := h.h
  have hb : But br w (w.setCell ⟨br, 0, none⟩ (.slice a' b'.length cap')) := (But.refl br w).row (by simp) (fun k hk => heap_setCell_other w ⟨br, 0, none⟩ k _ hk)
  exact ⟨⟨a', cap', h1.set 0 _, hs.but_at h1 (rdRow_no _ _ _ _) hb⟩, hb, fun B x hB hle => hB.setCell hle _⟩
/-- What changed nothing but made new blocks. -/
theorem rpk_below {w w' : World} {br : Nat} {b : List (BitVec 8)} {e : Nat} (h : RPk w br b e) (hb : Below w.heap.size w w') : PEnd RPk w br b e w' :=
  ⟨h.below hb, ⟨hb.size, fun k hk _ => hb.block k hk⟩, fun _ _ h2 hle => h2.trans (hb.mono (Nat.le_of_lt (Nat.lt_of_le_of_lt hle h.lt)))⟩
theorem infoSl : (Try.prog.info? 22).map (·.size) = some 1 := by kernel_rfl
theorem infoErr : (Try.prog.info? 27).map (·.size) = some 1 := by kernel_rfl
set_option maxRecDepth 100000 in
set_option maxHeartbeats 1000000 in
theorem fail_any (b : List (BitVec 8)) (e e' br : Nat) (w : World) (hr : RPk w br b e) (he : e' ≠ 0) :
    Calls Try.prog 36 #[rp br, .int .i64 (e' : Int)] w fun o w' => o = .returned (.tuple #[]) ∧ ∀ b', PEnd RPk w br b' e' w' := by
  obtain ⟨a, cap, hat, hsl⟩ := hr.h
  obtain ⟨X, hX⟩ : ∃ X, X = Value.slice a (lv b e).length cap := ⟨_, rfl⟩
  have hno := rdRow_no a (lv b e).length cap e
  rw [← hX] at hat hno
  have A0 := Lib.hid hat; have H0 := Lib.hid hat; have NO := Lib.hid hno
  clear hr hat hsl hX hno
  go_enter Try.func36, Try.ntmps36
  go_wp2_with (first
    | (refine Mem.wpList_store_one (by rfl) 22 _ _ (by rfl) (by rfl) br 0 (.slice none 0 0) (by rfl) (by rfl) (by rfl) infoSl _ 58 A0.out (by simp [rdRow]) ?_; intro w1 ha1 ho1 hk1; have A1 := Lib.hid ha1; have O1 := Lib.hid ho1; have K1 := Lib.hid hk1; clear ha1 ho1 hk1 A0)
    | (refine Mem.wpList_store_one (by rfl) 27 _ _ (by rfl) (by rfl) br 1 (.int .i64 (e' : Int)) (by rfl) (by rfl) (by rfl) infoErr _ 58 A1.out (by simp [rdRow]) ?_; intro w2 ha2 ho2 hk2; have A2 := Lib.hid ha2; have O2 := Lib.hid ho2; have K2 := Lib.hid hk2; clear ha2 ho2 hk2 A1))
  go_end0
  have k2 : ∀ B x, Below B x w → B ≤ br → Below B x w2 := fun B x h hle => K2.out B x (K1.out B x h hle) hle
  have bu : But br w w2 := ⟨(k2 br w (Below.refl _ _) (Nat.le_refl _)).size, fun k _ hne => (O2.out k hne).trans (O1.out k hne)⟩
  refine ⟨rfl, fun b' => ⟨⟨none, 0, ?_, ?_⟩, bu, k2⟩⟩
  · rw [lv_err b' e' he]
    exact A2.out
  · rw [lv_err b' e' he]
    exact sl_none _
set_option maxRecDepth 100000 in
set_option maxHeartbeats 1000000 in
theorem perr0_any (b : List (BitVec 8)) (e : Nat) (br : Nat) (w : World) (hr : RPk w br b e) : Calls Try.prog 26 #[rp br] w fun o w' => o = .returned (.int .i64 (e : Int)) ∧ w = w' := by
  obtain ⟨a, cap, hat, _⟩ := hr.h
  have c1 : w.cell? ⟨br, 1, none⟩ = some (.int .i64 (e : Int)) := by rw [hat.cell]; rfl
  clear hr hat
  go_enter Try.func26, Try.ntmps26
  go_wp2
  go_ret
  exact ⟨rfl, rfl⟩
set_option maxHeartbeats 1000000 in
theorem nerr0_any (w : World) : Calls Try.prog 26 #[.pointer none] w fun o w' => o = .returned (.int .i64 2) ∧ w = w' := by
  go_enter Try.func26, Try.ntmps26
  go_wp2
  go_ret
  exact ⟨rfl, rfl⟩
set_option maxRecDepth 100000 in
set_option maxHeartbeats 1000000 in
theorem pleft_any (b : List (BitVec 8)) (e : Nat) (br : Nat) (w : World) (hr : RPk w br b e) (hb : b.length ≤ 8000) : Calls Try.prog 27 #[rp br] w fun o w' => o = .returned (.int .i64 ((rdLeft b e : Nat) : Int)) ∧ PEnd RPk w br b e w' := by
  obtain ⟨a, cap, hat, _⟩ := hr.h
  obtain ⟨m, hm⟩ : ∃ m, m = (lv b e).length := ⟨_, rfl⟩
  have hm8 : m ≤ 8000 := by rw [hm, lv]; split <;> simp [hb]
  rw [← hm] at hat
  have c0 : w.cell? ⟨br, 0, none⟩ = some (.slice a m cap) := by rw [hat.cell]; rfl
  have hrl : rdLeft b e = m := by
    rw [hm, rdLeft, lv]
    by_cases he : e = 0 <;> simp [he]
  have HR := Lib.hid hr; have RL := Lib.hid hrl
  clear hr hat hm hrl
  rw [RL.out]
  go_enter Try.func27, Try.ntmps27
  go_wp2
  go_ret
  exact ⟨rfl, rpk_same HR.out⟩
set_option maxHeartbeats 1000000 in
theorem nleft_any (w : World) : Calls Try.prog 27 #[.pointer none] w fun o w' => o = .returned (.int .i64 0) ∧ Below w.heap.size w w' := by
  go_enter Try.func27, Try.ntmps27
  go_wp2
  go_ret
  exact ⟨rfl, Below.refl _ _⟩
set_option maxRecDepth 100000 in
set_option maxHeartbeats 1000000 in
theorem read_any (b : List (BitVec 8)) (v : Value) (w : World) (hv : Sl w v b) (hb : b.length ≤ 8000) : Calls Try.prog 16 #[v] w fun o w' => ∃ br, o = .returned (rp br) ∧ w.heap.size ≤ br ∧ RPk w' br b 0 ∧ Below w.heap.size w w' := by
  have hcl := clone_any b v w (by omega) hv
  obtain ⟨a0, cap, rfl, _, _⟩ := hv
  have CL := Lib.hid hcl
  clear hcl
  go_enter Try.func16, Try.ntmps16
  go_wp2_with fail
  refine CL.out.mono ?_
  rintro o w5 ⟨v5, rfl, hs5, hb5⟩
  have hs0 := hs5
  obtain ⟨a5, c5, rfl, _, _⟩ := hs5
  obtain ⟨m, hm⟩ : ∃ m, m = b.length := ⟨_, rfl⟩
  rw [← hm] at hs0 ⊢
  have S5 := Lib.hid hs0; have B5 := Lib.hid hb5; have HM := Lib.hid hm
  clear hs0 hb5 hm CL
  go_wp2_with fail
  go_ret
  have b6 : Below w5.heap.size w5 (w5.alloc (.cells (rdRow (.slice a5 m c5) 0) 58)) := (Below.refl _ _).alloc (Nat.le_refl _) _
  have a6 : At (w5.alloc (.cells (rdRow (.slice a5 m c5) 0) 58)) w5.heap.size (rdRow (.slice a5 m c5) 0) 58 := at_new w5 _ _
  exact ⟨w5.heap.size, rfl, B5.out.size, ⟨a5, c5, by rw [lv_zero, ← HM.out]; exact a6, by rw [lv_zero, ← HM.out]; exact S5.out.below b6⟩, B5.out.trans (b6.mono B5.out.size)⟩
end Sha
end Go.Proofs.Ytoefhcikfmgkbaa
