/- The document's own product of two numbers of 64 bits, and its whole cube roots: their walks. -/
import Derived.Test.YtngegegomkclbaaDoorShaRef1
import Derived.BigGuardPart
namespace Go.Proofs.YtngegegomkclbaaDoor
namespace Sha
open Go.RowKit Mem

def w64 (x : Int) : Int := IntKind.u64.wrap x
def tLow (a b : Int) : Int := w64 (a % 4294967296 * (b % 4294967296))
def tMid (a b : Int) : Int := w64 (w64 (w64 (a.tdiv 4294967296) * (b % 4294967296)) + w64 ((tLow a b).tdiv 4294967296))
def tMid2 (a b : Int) : Int := w64 (w64 (a % 4294967296 * w64 (b.tdiv 4294967296)) + (tMid a b).tmod 4294967296)
def tHi (a b : Int) : Int := w64 (w64 (w64 (w64 (a.tdiv 4294967296) * w64 (b.tdiv 4294967296)) + w64 ((tMid a b).tdiv 4294967296)) + w64 ((tMid2 a b).tdiv 4294967296))
def tLo (a b : Int) : Int := w64 (w64 (tMid2 a b * 4294967296) + (tLow a b).tmod 4294967296)
theorem w64_nonneg (x : Int) : 0 ≤ w64 x := by unfold w64; simp [IntKind.wrap, IntKind.bits, IntKind.signed]; omega
set_option maxRecDepth 100000 in
set_option maxHeartbeats 400000 in
theorem times_any (a b : Int) (w : World) (ha : 0 ≤ a) (hb : 0 ≤ b) :
    Calls Tryd.prog 53 #[.int .u64 a, .int .u64 b] w fun e w' => e = .returned (.tuple #[.int .u64 (tHi a b), .int .u64 (tLo a b)]) ∧ w = w' := by
  go_enter Tryd.func53, Tryd.ntmps53
  go_wp2
  go_ret2
  exact ⟨rfl, rfl⟩
/-- Is x's cube at most p times 2^96, as the document reckons it? -/
def cubeOk (p x : Int) : Bool :=
  let hi := tHi x x
  let lo := tLo x x
  let mid := w64 (tHi lo x + tLo hi x)
  let top := if mid < tHi lo x then w64 (tHi hi x + 1) else tHi hi x
  top == 0 && (decide (mid < w64 (p * 4294967296)) || (mid == w64 (p * 4294967296) && tLo lo x == 0))
def cubeGo (p : Int) : Nat → Int → Int
  | 0, r => r
  | k + 1, r => cubeGo p k (if cubeOk p (w64 (r + w64 (2 ^ k))) then w64 (r + w64 (2 ^ k)) else r)
theorem cube_first : cubeGo 2 35 0 % 4294967296 = V (Kl.getD 0 0) := by decide +kernel
theorem cube_last : cubeGo 311 35 0 % 4294967296 = V (Kl.getD 63 0) := by decide +kernel
set_option maxRecDepth 100000 in
set_option maxHeartbeats 1000000 in
theorem cube_any (p : Int) (w : World) (_hp : 0 ≤ p) :
    Calls Tryd.prog 46 #[.int .u64 p] w fun e w' => e = .returned (.int .u32 (cubeGo p 35 0 % 4294967296)) ∧ w = w' := by
  obtain ⟨want, hw⟩ : ∃ want, want = w64 (p * 4294967296) := ⟨_, rfl⟩
  have hwant : IntKind.u64.wrap (p * 4294967296) = want := hw.symm
  have HW := Lib.hid hw; clear hw
  go_enter Tryd.func46, Tryd.ntmps46
  go_wp2_with fail
  go_loop [3, 4] (fun v3 v4 => ∃ (m : Nat) (r : Int), m ≤ 35 ∧ v4 = .int .i64 ((m : Int) - 1) ∧ v3 = .int .u64 r ∧ 0 ≤ r ∧ cubeGo p m r = cubeGo p 35 0) (fun _ v4 => (intOf v4 + 1).toNat)
  case atStart => exact ⟨35, 0, by omega, rfl, rfl, by omega, rfl⟩
  case round =>
    obtain ⟨m, r, hm, rfl, rfl, hr, hgo⟩ := hrel
    have HGO := Lib.hid hgo; clear hgo
    cases m with
    | zero =>
      have h35 : cubeGo p 35 0 = r := by rw [← HGO.out]; rfl
      have H35 := Lib.hid h35; clear h35
      go_wp2
      go_ret
      refine ⟨?_, rfl⟩
      rw [H35.out]; rfl
    | succ k =>
      rw [show (((k + 1 : Nat) : Int) - 1) = (k : Int) from by omega]
      obtain ⟨x, hx⟩ : ∃ x, x = w64 (r + w64 (2 ^ k)) := ⟨_, rfl⟩
      have hx0 : 0 ≤ x := by rw [hx]; exact w64_nonneg _
      have hxr : IntKind.u64.wrap (r + IntKind.u64.wrap (2 ^ k)) = x := hx.symm
      obtain ⟨hi, hhi⟩ : ∃ q, q = tHi x x := ⟨_, rfl⟩
      obtain ⟨lo, hlo⟩ : ∃ q, q = tLo x x := ⟨_, rfl⟩
      have hi0 : 0 ≤ hi := by rw [hhi]; exact w64_nonneg _
      have lo0 : 0 ≤ lo := by rw [hlo]; exact w64_nonneg _
      obtain ⟨h1, hh1⟩ : ∃ q, q = tHi lo x := ⟨_, rfl⟩
      obtain ⟨l1, hl1⟩ : ∃ q, q = tLo lo x := ⟨_, rfl⟩
      obtain ⟨h2, hh2⟩ : ∃ q, q = tHi hi x := ⟨_, rfl⟩
      obtain ⟨l2, hl2⟩ : ∃ q, q = tLo hi x := ⟨_, rfl⟩
      obtain ⟨mid, hmid⟩ : ∃ q, q = w64 (h1 + l2) := ⟨_, rfl⟩
      obtain ⟨u2, hu2⟩ : ∃ q, q = w64 (h2 + 1) := ⟨_, rfl⟩
      have hmr : IntKind.u64.wrap (h1 + l2) = mid := hmid.symm
      have hur : IntKind.u64.wrap (h2 + 1) = u2 := hu2.symm
      have T1 : Hid (∀ w, Calls Tryd.prog 53 #[.int .u64 x, .int .u64 x] w fun e w' => e = .returned (.tuple #[.int .u64 hi, .int .u64 lo]) ∧ w = w') := fun w => by rw [hhi, hlo]; exact times_any x x w hx0 hx0
      have T2 : Hid (∀ w, Calls Tryd.prog 53 #[.int .u64 lo, .int .u64 x] w fun e w' => e = .returned (.tuple #[.int .u64 h1, .int .u64 l1]) ∧ w = w') := fun w => by rw [hh1, hl1]; exact times_any lo x w lo0 hx0
      have T3 : Hid (∀ w, Calls Tryd.prog 53 #[.int .u64 hi, .int .u64 x] w fun e w' => e = .returned (.tuple #[.int .u64 h2, .int .u64 l2]) ∧ w = w') := fun w => by rw [hh2, hl2]; exact times_any hi x w hi0 hx0
      have hok : cubeOk p x = ((if mid < h1 then u2 else h2) == 0 && (decide (mid < want) || (mid == want && l1 == 0))) := by
        rw [hu2, hmid, hh1, hh2, hl1, hl2, hhi, hlo, HW.out]; rfl
      have hstep : cubeGo p k (if cubeOk p x then x else r) = cubeGo p 35 0 := by rw [← HGO.out, hx]; rfl
      have HOK := Lib.hid hok; have HST := Lib.hid hstep
      clear hx hhi hlo hh1 hl1 hh2 hl2 hmid hu2 hok hstep hi0 lo0
      by_cases hA : mid < h1
      · skip
        cases hB : (u2 == 0)
        case false =>
          have hv : cubeOk p x = false := by rw [HOK.out, if_pos hA, hB]; rfl
          have HVV := Lib.hid hv; clear hv
          go_wp2_with fail
          refine (T1.out _).mono ?_
          rintro e w1 ⟨rfl, rfl⟩
          go_wp2_with fail
          refine (T2.out _).mono ?_
          rintro e w1 ⟨rfl, rfl⟩
          go_wp2_with fail
          refine (T3.out _).mono ?_
          rintro e w1 ⟨rfl, rfl⟩
          go_wp2_with fail
          go_round
          case rel => exact ⟨k, r, by omega, by go_num, rfl, by assumption, by have h := HST.out; rw [HVV.out] at h; exact h⟩
          case measure => simp [intOf] <;> omega
        case true =>
          cases hC : decide (mid < want)
          case true =>
            have hv : cubeOk p x = true := by rw [HOK.out, if_pos hA, hB, hC]; rfl
            have HVV := Lib.hid hv; clear hv
            go_wp2_with fail
            refine (T1.out _).mono ?_
            rintro e w1 ⟨rfl, rfl⟩
            go_wp2_with fail
            refine (T2.out _).mono ?_
            rintro e w1 ⟨rfl, rfl⟩
            go_wp2_with fail
            refine (T3.out _).mono ?_
            rintro e w1 ⟨rfl, rfl⟩
            go_wp2_with fail
            go_round
            case rel => exact ⟨k, x, by omega, by go_num, rfl, by assumption, by have h := HST.out; rw [HVV.out] at h; exact h⟩
            case measure => simp [intOf] <;> omega
          case false =>
            cases hD : (mid == want)
            case false =>
              have hv : cubeOk p x = false := by rw [HOK.out, if_pos hA, hB, hC, hD]; rfl
              have HVV := Lib.hid hv; clear hv
              go_wp2_with fail
              refine (T1.out _).mono ?_
              rintro e w1 ⟨rfl, rfl⟩
              go_wp2_with fail
              refine (T2.out _).mono ?_
              rintro e w1 ⟨rfl, rfl⟩
              go_wp2_with fail
              refine (T3.out _).mono ?_
              rintro e w1 ⟨rfl, rfl⟩
              go_wp2_with fail
              go_round
              case rel => exact ⟨k, r, by omega, by go_num, rfl, by assumption, by have h := HST.out; rw [HVV.out] at h; exact h⟩
              case measure => simp [intOf] <;> omega
            case true =>
              cases hE : (l1 == 0)
              case false =>
                have hv : cubeOk p x = false := by rw [HOK.out, if_pos hA, hB, hC, hD, hE]; rfl
                have HVV := Lib.hid hv; clear hv
                go_wp2_with fail
                refine (T1.out _).mono ?_
                rintro e w1 ⟨rfl, rfl⟩
                go_wp2_with fail
                refine (T2.out _).mono ?_
                rintro e w1 ⟨rfl, rfl⟩
                go_wp2_with fail
                refine (T3.out _).mono ?_
                rintro e w1 ⟨rfl, rfl⟩
                go_wp2_with fail
                go_round
                case rel => exact ⟨k, r, by omega, by go_num, rfl, by assumption, by have h := HST.out; rw [HVV.out] at h; exact h⟩
                case measure => simp [intOf] <;> omega
              case true =>
                have hv : cubeOk p x = true := by rw [HOK.out, if_pos hA, hB, hC, hD, hE]; rfl
                have HVV := Lib.hid hv; clear hv
                go_wp2_with fail
                refine (T1.out _).mono ?_
                rintro e w1 ⟨rfl, rfl⟩
                go_wp2_with fail
                refine (T2.out _).mono ?_
                rintro e w1 ⟨rfl, rfl⟩
                go_wp2_with fail
                refine (T3.out _).mono ?_
                rintro e w1 ⟨rfl, rfl⟩
                go_wp2_with fail
                go_round
                case rel => exact ⟨k, x, by omega, by go_num, rfl, by assumption, by have h := HST.out; rw [HVV.out] at h; exact h⟩
                case measure => simp [intOf] <;> omega
      · skip
        cases hB : (h2 == 0)
        case false =>
          have hv : cubeOk p x = false := by rw [HOK.out, if_neg hA, hB]; rfl
          have HVV := Lib.hid hv; clear hv
          go_wp2_with fail
          refine (T1.out _).mono ?_
          rintro e w1 ⟨rfl, rfl⟩
          go_wp2_with fail
          refine (T2.out _).mono ?_
          rintro e w1 ⟨rfl, rfl⟩
          go_wp2_with fail
          refine (T3.out _).mono ?_
          rintro e w1 ⟨rfl, rfl⟩
          go_wp2_with fail
          go_round
          case rel => exact ⟨k, r, by omega, by go_num, rfl, by assumption, by have h := HST.out; rw [HVV.out] at h; exact h⟩
          case measure => simp [intOf] <;> omega
        case true =>
          cases hC : decide (mid < want)
          case true =>
            have hv : cubeOk p x = true := by rw [HOK.out, if_neg hA, hB, hC]; rfl
            have HVV := Lib.hid hv; clear hv
            go_wp2_with fail
            refine (T1.out _).mono ?_
            rintro e w1 ⟨rfl, rfl⟩
            go_wp2_with fail
            refine (T2.out _).mono ?_
            rintro e w1 ⟨rfl, rfl⟩
            go_wp2_with fail
            refine (T3.out _).mono ?_
            rintro e w1 ⟨rfl, rfl⟩
            go_wp2_with fail
            go_round
            case rel => exact ⟨k, x, by omega, by go_num, rfl, by assumption, by have h := HST.out; rw [HVV.out] at h; exact h⟩
            case measure => simp [intOf] <;> omega
          case false =>
            cases hD : (mid == want)
            case false =>
              have hv : cubeOk p x = false := by rw [HOK.out, if_neg hA, hB, hC, hD]; rfl
              have HVV := Lib.hid hv; clear hv
              go_wp2_with fail
              refine (T1.out _).mono ?_
              rintro e w1 ⟨rfl, rfl⟩
              go_wp2_with fail
              refine (T2.out _).mono ?_
              rintro e w1 ⟨rfl, rfl⟩
              go_wp2_with fail
              refine (T3.out _).mono ?_
              rintro e w1 ⟨rfl, rfl⟩
              go_wp2_with fail
              go_round
              case rel => exact ⟨k, r, by omega, by go_num, rfl, by assumption, by have h := HST.out; rw [HVV.out] at h; exact h⟩
              case measure => simp [intOf] <;> omega
            case true =>
              cases hE : (l1 == 0)
              case false =>
                have hv : cubeOk p x = false := by rw [HOK.out, if_neg hA, hB, hC, hD, hE]; rfl
                have HVV := Lib.hid hv; clear hv
                go_wp2_with fail
                refine (T1.out _).mono ?_
                rintro e w1 ⟨rfl, rfl⟩
                go_wp2_with fail
                refine (T2.out _).mono ?_
                rintro e w1 ⟨rfl, rfl⟩
                go_wp2_with fail
                refine (T3.out _).mono ?_
                rintro e w1 ⟨rfl, rfl⟩
                go_wp2_with fail
                go_round
                case rel => exact ⟨k, r, by omega, by go_num, rfl, by assumption, by have h := HST.out; rw [HVV.out] at h; exact h⟩
                case measure => simp [intOf] <;> omega
              case true =>
                have hv : cubeOk p x = true := by rw [HOK.out, if_neg hA, hB, hC, hD, hE]; rfl
                have HVV := Lib.hid hv; clear hv
                go_wp2_with fail
                refine (T1.out _).mono ?_
                rintro e w1 ⟨rfl, rfl⟩
                go_wp2_with fail
                refine (T2.out _).mono ?_
                rintro e w1 ⟨rfl, rfl⟩
                go_wp2_with fail
                refine (T3.out _).mono ?_
                rintro e w1 ⟨rfl, rfl⟩
                go_wp2_with fail
                go_round
                case rel => exact ⟨k, x, by omega, by go_num, rfl, by assumption, by have h := HST.out; rw [HVV.out] at h; exact h⟩
                case measure => simp [intOf] <;> omega
end Sha
end Go.Proofs.YtngegegomkclbaaDoor
