/- Package pack's reader as one box. -/
import Derived.Test.YtknaimpnkflfnaaPkLow
import Derived.Test.YtknaimpnkflfnaaSlice
namespace Go.Proofs.Ytknaimpnkflfnaa
namespace Sha
open Go.RowKit Mem
def lv (b : List (BitVec 8)) (e : Nat) : List (BitVec 8) := if e = 0 then b else []
theorem lv_zero (b : List (BitVec 8)) : lv b 0 = b := rfl
theorem lv_err (b : List (BitVec 8)) (e : Nat) (h : e ≠ 0) : lv b e = [] := if_neg h
/-- What is left lies below the box. -/
def LB (br : Nat) (a : Option Addr) (l : List (BitVec 8)) : Prop := l ≠ [] → ∀ p, a = some p → p.block < br
theorem lb_piece {br : Nat} {a : Option Addr} {l : List (BitVec 8)} (h : LB br a l) (cap n : Nat) : LB br (pieceA a cap n) (l.drop n) := by
  intro hne p hp
  have hl : l ≠ [] := fun e => hne (by rw [e]; simp)
  unfold pieceA at hp
  split at hp
  · exact h hl p hp
  · cases a with
    | none => simp at hp
    | some q =>
      have h2 := h hl q rfl
      have e : q.add n = p := by simpa using hp
      rw [← e]
      have e3 : (q.add n).block = q.block := by unfold Addr.add; split <;> rfl
      rw [e3]; exact h2
structure RPk (w : World) (br : Nat) (b : List (BitVec 8)) (e : Nat) : Prop where
  h3 : ∃ a cap, At w br (rdRow (.slice a (lv b e).length cap) e) 75 ∧ Sl w (.slice a (lv b e).length cap) (lv b e) ∧ LB br a (lv b e)
theorem RPk.h {w : World} {br : Nat} {b : List (BitVec 8)} {e : Nat} (h : RPk w br b e) : ∃ a cap, At w br (rdRow (.slice a (lv b e).length cap) e) 75 ∧ Sl w (.slice a (lv b e).length cap) (lv b e) := by
  obtain ⟨a, cap, h1, h2, _⟩ := h.h3
  exact ⟨a, cap, h1, h2⟩
theorem RPk.lb {w : World} {br m cap : Nat} {b : List (BitVec 8)} {a : Option Addr} {e : Nat} (h : RPk w br b e) (hat : At w br (rdRow (.slice a m cap) e) 75) : LB br a (lv b e) := by
  obtain ⟨a', cap', h1, _, h2⟩ := h.h3
  unfold At at hat h1
  rw [hat] at h1
  injection h1 with h1
  injection h1 with h1 _ _
  unfold rdRow at h1
  have h3 : (Value.slice a m cap) = .slice a' (lv b e).length cap' := by
    have := congrArg (fun x : Array Value => x[0]?) h1
    simpa using this
  injection h3 with h3 _ _
  rw [h3]; exact h2
theorem RPk.below {w w' : World} {br : Nat} {b : List (BitVec 8)} {e : Nat} (h : RPk w br b e) (hb : Below w.heap.size w w') : RPk w' br b e := by
  obtain ⟨a, cap, h1, h2, h3⟩ := h.h3
  exact ⟨a, cap, h1.below hb h1.lt, h2.below hb, h3⟩
theorem RPk.but {w w' : World} {br bx : Nat} {b : List (BitVec 8)} {e : Nat} {C : Array Value} {t : TypeId} (h : RPk w br b e) (hC : At w bx C t) (hno : ∀ (k : Nat) (x : Int), C[k]? ≠ some (.int .u8 x)) (hne : br ≠ bx) (hb : But bx w w') : RPk w' br b e := by
  obtain ⟨a, cap, h1, h2, h3⟩ := h.h3
  exact ⟨a, cap, h1.but hb hne, h2.but_at hC hno hb, h3⟩
/-- A block above the box is none of the reader's. -/
theorem RPk.above {w w' : World} {br bx : Nat} {b : List (BitVec 8)} {e : Nat} (h : RPk w br b e) (hb : But bx w w') (hne : br < bx) : RPk w' br b e := by
  obtain ⟨a, cap, h1, h2, h3⟩ := h.h3
  refine ⟨a, cap, h1.but hb (by omega), ?_, h3⟩
  obtain ⟨a2, cap2, e2, hc, hr⟩ := h2
  injection e2 with e2 _ e4
  subst e2; subst e4
  refine ⟨a, cap, rfl, hc, fun hl => ?_⟩
  obtain ⟨bb, oo, ea, hlt, hcell⟩ := hr hl
  have hlt2 := h3 hl _ ea
  refine ⟨bb, oo, ea, Nat.lt_of_lt_of_le hlt hb.size, fun i hi => ?_⟩
  rw [World.cell?_of_block (w := w) (w' := w') (a := ⟨bb, oo + i, none⟩) (hb.block bb hlt (by simp only at hlt2; omega))]
  exact hcell i hi
theorem RPk.keep {w w' : World} {br : Nat} {b l : List (BitVec 8)} {e : Nat} {v : Value} (h : RPk w br b e) (hb : But br w w') (hs : Sl w v l) : Sl w' v l := by
  obtain ⟨a, cap, h1, _⟩ := h.h
  exact hs.but_at h1 (rdRow_no _ _ _ _) hb
theorem RPk.lt {w : World} {br : Nat} {b : List (BitVec 8)} {e : Nat} (h : RPk w br b e) : br < w.heap.size := by
  obtain ⟨a, cap, h1, _⟩ := h.h
  exact h1.lt
theorem rpk_same {w : World} {br : Nat} {b : List (BitVec 8)} {e : Nat} (h : RPk w br b e) : PEnd RPk w br b e w := ⟨h, But.refl _ _, fun _ _ h _ => h⟩
theorem rpk_left {w : World} {br : Nat} {b b' : List (BitVec 8)} (h : RPk w br b 0) (a' : Option Addr) (n' cap' : Nat) (hn : n' = b'.length) (hs : Sl w (.slice a' n' cap') b') (hlb : LB br a' b') : PEnd RPk w br b' 0 (w.setCell ⟨br, 0, none⟩ (.slice a' n' cap')) := by
  subst hn
  obtain ⟨a, cap, h1, h2⟩ := h.h
  have hb : But br w (w.setCell ⟨br, 0, none⟩ (.slice a' b'.length cap')) := (But.refl br w).row (by simp) (fun k hk => heap_setCell_other w ⟨br, 0, none⟩ k _ hk)
  exact ⟨⟨a', cap', h1.set 0 _, hs.but_at h1 (rdRow_no _ _ _ _) hb, hlb⟩, hb, fun B x hB hle => hB.setCell hle _⟩
/-- What changed nothing but made new blocks. -/
theorem rpk_below {w w' : World} {br : Nat} {b : List (BitVec 8)} {e : Nat} (h : RPk w br b e) (hb : Below w.heap.size w w') : PEnd RPk w br b e w' :=
  ⟨h.below hb, ⟨hb.size, fun k hk _ => hb.block k hk⟩, fun _ _ h2 hle => h2.trans (hb.mono (Nat.le_of_lt (Nat.lt_of_le_of_lt hle h.lt)))⟩
theorem infoSl : (Try.prog.info? 27).map (·.size) = some 1 := by kernel_rfl
theorem infoErr : (Try.prog.info? 28).map (·.size) = some 1 := by kernel_rfl
set_option maxRecDepth 100000 in
set_option maxHeartbeats 1000000 in
theorem fail_any (b : List (BitVec 8)) (e e' br : Nat) (w : World) (hr : RPk w br b e) (he : e' ≠ 0) :
    Calls Try.prog 41 #[rp br, .int .i64 (e' : Int)] w fun o w' => o = .returned (.tuple #[]) ∧ ∀ b', PEnd RPk w br b' e' w' := by
  obtain ⟨a, cap, hat, hsl⟩ := hr.h
  obtain ⟨X, hX⟩ : ∃ X, X = Value.slice a (lv b e).length cap := ⟨_, rfl⟩
  have hno := rdRow_no a (lv b e).length cap e
  rw [← hX] at hat hno
  have A0 := Lib.hid hat; have H0 := Lib.hid hat; have NO := Lib.hid hno
  clear hr hat hsl hX hno
  go_enter Try.func41, Try.ntmps41
  go_wp2_with (first
    | (refine Mem.wpList_store_one (by rfl) 27 _ _ (by rfl) (by rfl) br 0 (.slice none 0 0) (by rfl) (by rfl) (by rfl) infoSl _ 75 A0.out (by simp [rdRow]) ?_; intro w1 ha1 ho1 hk1; have A1 := Lib.hid ha1; have O1 := Lib.hid ho1; have K1 := Lib.hid hk1; clear ha1 ho1 hk1 A0)
    | (refine Mem.wpList_store_one (by rfl) 28 _ _ (by rfl) (by rfl) br 1 (.int .i64 (e' : Int)) (by rfl) (by rfl) (by rfl) infoErr _ 75 A1.out (by simp [rdRow]) ?_; intro w2 ha2 ho2 hk2; have A2 := Lib.hid ha2; have O2 := Lib.hid ho2; have K2 := Lib.hid hk2; clear ha2 ho2 hk2 A1))
  go_end0
  have k2 : ∀ B x, Below B x w → B ≤ br → Below B x w2 := fun B x h hle => K2.out B x (K1.out B x h hle) hle
  have bu : But br w w2 := ⟨(k2 br w (Below.refl _ _) (Nat.le_refl _)).size, fun k _ hne => (O2.out k hne).trans (O1.out k hne)⟩
  refine ⟨rfl, fun b' => ⟨⟨none, 0, ?_, ?_, fun _ p hp => by cases hp⟩, bu, k2⟩⟩
  · rw [lv_err b' e' he]
    exact A2.out
  · rw [lv_err b' e' he]
    exact sl_none _
set_option maxRecDepth 100000 in
set_option maxHeartbeats 1000000 in
theorem perr0_any (b : List (BitVec 8)) (e : Nat) (br : Nat) (w : World) (hr : RPk w br b e) : Calls Try.prog 42 #[rp br] w fun o w' => o = .returned (.int .i64 (e : Int)) ∧ w = w' := by
  obtain ⟨a, cap, hat, _⟩ := hr.h
  have c1 : w.cell? ⟨br, 1, none⟩ = some (.int .i64 (e : Int)) := by rw [hat.cell]; rfl
  clear hr hat
  go_enter Try.func42, Try.ntmps42
  go_wp2
  go_ret
  exact ⟨rfl, rfl⟩
set_option maxHeartbeats 1000000 in
theorem nerr0_any (w : World) : Calls Try.prog 42 #[.pointer none] w fun o w' => o = .returned (.int .i64 2) ∧ w = w' := by
  go_enter Try.func42, Try.ntmps42
  go_wp2
  go_ret
  exact ⟨rfl, rfl⟩
set_option maxRecDepth 100000 in
set_option maxHeartbeats 1000000 in
theorem read_any (b : List (BitVec 8)) (v : Value) (w : World) (hv : Sl w v b) (hb : b.length ≤ 8000) : Calls Try.prog 28 #[v] w fun o w' => ∃ br, o = .returned (rp br) ∧ w.heap.size ≤ br ∧ RPk w' br b 0 ∧ Below w.heap.size w w' := by
  have hcl := clone_any b v w (by omega) hv
  obtain ⟨a0, cap, rfl, _, _⟩ := hv
  have CL := Lib.hid hcl
  clear hcl
  go_enter Try.func28, Try.ntmps28
  go_wp2_with fail
  refine CL.out.mono ?_
  rintro o w5 ⟨v5, rfl, hs5, hb5⟩
  have hs0 := hs5
  obtain ⟨a5, c5, rfl, _, _⟩ := hs5
  obtain ⟨m, hm⟩ : ∃ m, m = b.length := ⟨_, rfl⟩
  rw [← hm] at hs0 ⊢
  have S5 := Lib.hid hs0; have B5 := Lib.hid hb5; have HM := Lib.hid hm
  have LB5 : Hid (LB w5.heap.size a5 (lv b 0)) := fun hne p hp => by
    obtain ⟨_, _, e5, _, hr5⟩ := hs0
    injection e5 with e5 _ _
    obtain ⟨bb, oo, ea, hlt, _⟩ := hr5 hne
    rw [hp, ea] at e5
    injection e5 with e5
    rw [e5]; exact hlt
  clear hs0 hb5 hm CL
  go_wp2_with fail
  go_ret
  have b6 : Below w5.heap.size w5 (w5.alloc (.cells (rdRow (.slice a5 m c5) 0) 75)) := (Below.refl _ _).alloc (Nat.le_refl _) _
  have a6 : At (w5.alloc (.cells (rdRow (.slice a5 m c5) 0) 75)) w5.heap.size (rdRow (.slice a5 m c5) 0) 75 := at_new w5 _ _
  exact ⟨w5.heap.size, rfl, B5.out.size, ⟨a5, c5, by rw [lv_zero, ← HM.out]; exact a6, by rw [lv_zero, ← HM.out]; exact S5.out.below b6, LB5.out⟩, B5.out.trans (b6.mono B5.out.size)⟩
end Sha
end Go.Proofs.Ytknaimpnkflfnaa
