/- The laws of layer 6: same, of one list; rules for the laws' regions. -/
import Derived.Test.YtkgpcgkikenljaaDevDo
namespace Go.Proofs.Ytkgpcgkikenljaa
namespace Mem
open Go.RowKit
theorem plan_not {P : Program} {ops : Array Oper} {Q : Exit → Act → World → Prop} {S : World → Prop} {w : World} {a : Act} {o : Oper} {i : Nat} {r : Plan} (t : TypeId) (x : Operand) (b : Bool) (ho : ops.toList[i]? = some o) (hw : Region.wanted o (yielded ops a.tmps) = true) (hop : o.op = .unOp .not t x)
    (hx : a.eval x = .bool b) (h : wpPlan P ops Q S r (a.put o.dst (.bool (!b))) w) : wpPlan P ops Q S (.take i r) a w :=
  plan_take _ ho hw (fun w' _ => by cases b <;> simp [execOp, hop, hx, Op.unary]) h
theorem plan_not_t {P : Program} {ops : Array Oper} {Q : Exit → Act → World → Prop} {S : World → Prop} {w : World} {a : Act} {o : Oper} {i : Nat} {r : Plan} (t : TypeId) (x : Operand) (ho : ops.toList[i]? = some o) (hw : Region.wanted o (yielded ops a.tmps) = true) (hop : o.op = .unOp .not t x)
    (hx : a.eval x = .bool true) (h : wpPlan P ops Q S r (a.put o.dst (.bool false)) w) : wpPlan P ops Q S (.take i r) a w := plan_not t x true ho hw hop hx h
end Mem
namespace Sha
open Go.RowKit Mem
theorem i64s_at {F : Foot} {w : World} {a : Option Addr} {n cap : Nat} {l : List Int} (h : SlR F w 1 (.slice a n cap) n (i64s l)) {i : Nat} (hi : i < n) : ∃ b o, a = some ⟨b, o, none⟩ ∧ w.cell? ⟨b, o + i, none⟩ = some (.int .i64 (l.getD i 0)) := by
  obtain ⟨b, o, ea, _, hc⟩ := slR_at h hi
  refine ⟨b, o, ea, ?_⟩
  have h1 := hc 0 (by decide)
  have hl : i < l.length := by have := h.1; rw [i64s_length, Nat.mul_one] at this; omega
  rw [Nat.one_mul, Nat.add_zero] at h1
  rw [h1]
  simp [i64s, List.getD_eq_getElem?_getD, hl]
set_option maxRecDepth 100000 in
set_option maxHeartbeats 1000000 in
theorem sameI_any {F1 F2 : Foot} (l : List Int) (v u : Value) (w : World) (hv : SlR F1 w 1 v l.length (i64s l)) (hu : SlR F2 w 1 u l.length (i64s l)) (hl : l.length ≤ 1000000) :
    Calls Try.prog 15 #[v, u] w fun e w' => e = .returned (.bool true) ∧ Below w.heap.size w w' := by
  obtain ⟨a1, c1, rfl⟩ : ∃ a c, v = .slice a l.length c := by obtain ⟨_, a, c, e, _⟩ := hv; exact ⟨a, c, e⟩
  obtain ⟨a2, c2, rfl⟩ : ∃ a c, u = .slice a l.length c := by obtain ⟨_, a, c, e, _⟩ := hu; exact ⟨a, c, e⟩
  obtain ⟨n, hn⟩ : ∃ n, n = l.length := ⟨_, rfl⟩
  rw [← hn] at hv hu hl ⊢
  have HV := Lib.hid hv; have HU := Lib.hid hu
  clear hv hu hn
  go_enter Try.func15, Try.ntmps15
  go_wp2_with fail
  go_loopw [13] (fun i wr => ∃ j : Nat, j ≤ n ∧ i = .int .i64 j ∧ ∃ q, wr = w.drewN q) (fun i _ => n - (intOf i).toNat)
  case atStart => exact ⟨0, Nat.zero_le _, rfl, 0, rfl⟩
  case round =>
    obtain ⟨j, hj, rfl, q, rfl⟩ := hrel
    by_cases hlt : j < n
    · obtain ⟨b1, o1, rfl, cl⟩ := i64s_at HV.out hlt
      obtain ⟨b2, o2, rfl, cm⟩ := i64s_at HU.out hlt
      have zn : (j : Int) < (n : Int) := by omega
      obtain ⟨x, hx⟩ : ∃ x, x = l.getD j 0 := ⟨_, rfl⟩
      rw [← hx] at cl cm
      clear hx
      go_wp2
      go_quiet (fail)
      go_wp2
      go_roundw
      case rel => exact ⟨j + 1, by omega, by go_num, _, rfl⟩
      case measure => simp [intOf]; omega
    · have hge : ¬ (j : Int) < (n : Int) := by omega
      go_wp2
      go_ret
      exact ⟨rfl, ⟨rfl, rfl, rfl, Nat.le_refl _, fun _ _ => rfl⟩⟩
end Sha
end Go.Proofs.Ytkgpcgkikenljaa
