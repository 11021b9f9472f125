/- The document's whole square roots, and its constants and first state reckoned at once: their walks. -/
import Derived.Test.YtajdpbbbocnfiaaGreatDoorBm19
import Derived.Test.YtajdpbbbocnfiaaGreatDoorBm00
namespace Go.Proofs.YtajdpbbbocnfiaaGreatDoor
namespace Sha
open Go.RowKit Mem
def sqOk (p x : Int) : Bool := decide (tHi x x < p) || (tHi x x == p && tLo x x == 0)
def sqGo (p : Int) : Nat → Int → Int
 | 0, r => r
 | k + 1, r => sqGo p k (if sqOk p (w64 (r + w64 (2 ^ k))) then w64 (r + w64 (2 ^ k)) else r)
theorem squares : (List.range 8).all (fun t => sqGo (((pr 312).getD t 0 : Nat) : Int) 36 0 % (4294967296 : Int) == V (IVl.getD t 0)) = true := by decide +kernel
theorem square_at (t : Nat) (h : t < 8) : sqGo (((pr 312).getD t 0 : Nat) : Int) 36 0 % (4294967296 : Int) = V (IVl.getD t 0) := by
 have := List.all_eq_true.1 squares t (List.mem_range.2 h)
 simpa using this
set_option maxRecDepth 100000 in
set_option maxHeartbeats 1000000 in
theorem square_any (p : Int) (w : World) (_hp : 0 ≤ p) :
 Calls Tryz.prog 109 #[.int .u64 p] w fun e w' => e = .returned (.int .u32 (sqGo p 36 0 % 4294967296)) ∧ w = w' := by
 go_enter Tryz.func109, Tryz.ntmps109
 go_wp2_with fail
 go_loop [3, 4] (fun v3 v4 => ∃ (m : Nat) (r : Int), m ≤ 36 ∧ v4 = .int .i64 ((m : Int) - 1) ∧ v3 = .int .u64 r ∧ 0 ≤ r ∧ sqGo p m r = sqGo p 36 0) (fun _ v4 => (intOf v4 + 1).toNat)
 case atStart => exact ⟨36, 0, by omega, rfl, rfl, by omega, rfl⟩
 case round =>
  obtain ⟨m, r, hm, rfl, rfl, hr, hgo⟩ := hrel
  have HGO := zh hgo; clear hgo
  cases m with
  | zero =>
   have h36 : sqGo p 36 0 = r := by rw [← HGO.out]; rfl
   have H36 := zh h36; clear h36
   go_wp2
   go_ret
   refine ⟨?_, rfl⟩
   rw [H36.out]; rfl
  | succ k =>
   rw [show (((k + 1 : Nat) : Int) - 1) = (k : Int) from by omega]
   obtain ⟨x, hx⟩ : ∃ x, x = w64 (r + w64 (2 ^ k)) := ⟨_, rfl⟩
   have hx0 : 0 ≤ x := by rw [hx]; exact w64_nonneg _
   have hxr : IntKind.u64.wrap (r + IntKind.u64.wrap (2 ^ k)) = x := hx.symm
   obtain ⟨hi, hhi⟩ : ∃ q, q = tHi x x := ⟨_, rfl⟩
   obtain ⟨lo, hlo⟩ : ∃ q, q = tLo x x := ⟨_, rfl⟩
   have T1 : Hid (∀ w, Calls Tryz.prog 121 #[.int .u64 x, .int .u64 x] w fun e w' => e = .returned (.tuple #[.int .u64 hi, .int .u64 lo]) ∧ w = w') := fun w => by rw [hhi, hlo]; exact times_any x x w hx0 hx0
   have hok : sqOk p x = (decide (hi < p) || (hi == p && lo == 0)) := by rw [hhi, hlo]; rfl
   have hstep : sqGo p k (if sqOk p x then x else r) = sqGo p 36 0 := by rw [← HGO.out, hx]; rfl
   have HOK := zh hok; have HST := zh hstep
   clear hx hhi hlo hok hstep
   cases hA : decide (hi < p)
   case true =>
    have hv : sqOk p x = true := by rw [HOK.out, hA]; rfl
    have HVV := zh hv; clear hv
    go_wp2_with fail
    refine (T1.out _).mono ?_
    rintro e w1 ⟨rfl, rfl⟩
    go_wp2_with fail
    go_round
    case rel => exact ⟨k, x, by omega, by go_num, rfl, by assumption, by have h := HST.out; rw [HVV.out] at h; exact h⟩
    case measure => simp [intOf] <;> omega
   case false =>
    cases hB : (hi == p)
    case false =>
     have hv : sqOk p x = false := by rw [HOK.out, hA, hB]; rfl
     have HVV := zh hv; clear hv
     go_wp2_with fail
     refine (T1.out _).mono ?_
     rintro e w1 ⟨rfl, rfl⟩
     go_wp2_with fail
     go_round
     case rel => exact ⟨k, r, by omega, by go_num, rfl, by assumption, by have h := HST.out; rw [HVV.out] at h; exact h⟩
     case measure => simp [intOf] <;> omega
    case true =>
     cases hC : (lo == 0)
     case false =>
      have hv : sqOk p x = false := by rw [HOK.out, hA, hB, hC]; rfl
      have HVV := zh hv; clear hv
      go_wp2_with fail
      refine (T1.out _).mono ?_
      rintro e w1 ⟨rfl, rfl⟩
      go_wp2_with fail
      go_round
      case rel => exact ⟨k, r, by omega, by go_num, rfl, by assumption, by have h := HST.out; rw [HVV.out] at h; exact h⟩
      case measure => simp [intOf] <;> omega
     case true =>
      have hv : sqOk p x = true := by rw [HOK.out, hA, hB, hC]; rfl
      have HVV := zh hv; clear hv
      go_wp2_with fail
      refine (T1.out _).mono ?_
      rintro e w1 ⟨rfl, rfl⟩
      go_wp2_with fail
      go_round
      case rel => exact ⟨k, x, by omega, by go_num, rfl, by assumption, by have h := HST.out; rw [HVV.out] at h; exact h⟩
      case measure => simp [intOf] <;> omega
theorem elemW : elemB Tryz.prog 151 23 (.int .u32 0) 4 := ⟨Tryz.underlying151, by kernel_rfl⟩
theorem u32s_next (l : List (BitVec 32)) (t : Nat) (h : t < l.length) : u32s (l.take (t + 1)) = u32s (l.take t) ++ [.int .u32 (V (l.getD t 0))] := by
 have e : l.getD t 0 = l[t] := by simp [h]
 rw [List.take_succ_eq_append_getElem h, ← e]
 simp [u32s]
def ARel1 (w1 : World) (v i : Value) (wr : World) : Prop :=
 ∃ t : Nat, t ≤ 64 ∧ i = .int .i64 t ∧ OwnV wr w1.heap.size 23 v (u32s (Kl.take t)) ∧ Below w1.heap.size w1 wr
def ARel2 (w1 : World) (vk v i : Value) (wr : World) : Prop :=
 ∃ t : Nat, t ≤ 8 ∧ i = .int .i64 t ∧ OwnV wr w1.heap.size 23 v (u32s (IVl.take t)) ∧ OwnV wr w1.heap.size 23 vk (u32s Kl) ∧ (∀ g, vk.ownBlock = some g → v.ownBlock ≠ some g) ∧ Below w1.heap.size w1 wr
def AEnd (w : World) (e : Ending) (w' : World) : Prop :=
 ∃ vk vf, e = .returned (.tuple #[vk, vf]) ∧ OwnV w' w.heap.size 23 vk (u32s Kl) ∧ OwnV w' w.heap.size 23 vf (u32s IVl) ∧ Below w.heap.size w w'
theorem ownV_more {w : World} {B B' : Nat} {e : TypeId} {v : Value} {xs : List Value} (h : OwnV w B e v xs) (hB : B' ≤ B) : OwnV w B' e v xs := by
 refine ⟨h.1, ?_⟩
 rcases h.2 with hn | ⟨g, cap, cur, rfl, hg, hr⟩
 ·exact .inl hn
 ·exact .inr ⟨g, cap, cur, rfl, Nat.le_trans hB hg, hr⟩
set_option maxRecDepth 100000 in
set_option maxHeartbeats 1000000 in
theorem all_any (w : World) : Calls Tryz.prog 89 #[] w (AEnd w) := by
 have HP := zh (primes_any 64 (by decide) w)
 go_enter Tryz.func89, Tryz.ntmps89
 go_wp2_with fail
 refine HP.out.mono ?_
 rintro e w1 ⟨v, q, rfl, hq, hlen, hown, hb⟩
 obtain ⟨a, cap, rfl, hc⟩ := own_open hown
 obtain ⟨gp, rfl, _⟩ := hc 0 (by omega)
 have hpc : ∀ t, t < 64 → w1.cell? ⟨gp, t, none⟩ = some (.int .u64 (((pr 312).getD t 0 : Nat) : Int)) := fun t ht => by
  obtain ⟨g, e, h⟩ := hc t (by omega)
  rw [pr_at q t hq (by omega)] at h
  injection e with e
  injection e with e1
  rw [e1]; exact h
 obtain ⟨L, hL⟩ : ∃ L, L = (pr q).length := ⟨_, rfl⟩
 rw [← hL] at hlen ⊢
 have hgp : gp < w1.heap.size := block_lt_of_cell (hpc 0 (by decide))
 have PC := zh hpc; have HB := zh hb
 clear hpc hc hown hL hq hb HP
 go_wp2_with fail
 go_loopw [3, 5] (fun v i wr => ARel1 w1 v i wr) (fun _ i _ => 64 - (intOf i).toNat)
 case atStart => exact ⟨0, by omega, rfl, OwnV.nil _ _ _, Below.refl _ _⟩
 case round =>
  obtain ⟨t, ht, rfl, how, hbr⟩ := hrel
  have hol : (u32s (Kl.take t)).length = t := by rw [u32s_length, List.length_take]; exact Nat.min_eq_left ht
  by_cases hlt : t < 64
  ·have cp : wr.cell? ⟨gp, t, none⟩ = some (.int .u64 (((pr 312).getD t 0 : Nat) : Int)) := by rw [hbr.cell (p := ⟨gp, t, none⟩) hgp]; exact PC.out t hlt
   obtain ⟨p, hpp⟩ : ∃ p : Int, p = (((pr 312).getD t 0 : Nat) : Int) := ⟨_, rfl⟩
   rw [← hpp] at cp
   have hcube := fun wx => cube_any p wx (by rw [hpp]; exact Int.natCast_nonneg _)
   rw [show cubeGo p 35 0 % (4294967296 : Int) = V (Kl.getD t 0) by rw [hpp]; exact cube_at t hlt] at hcube
   have hnx := u32s_next Kl t hlt
   obtain ⟨x, hx⟩ : ∃ x, x = Kl.getD t 0 := ⟨_, rfl⟩
   obtain ⟨X, hX⟩ : ∃ X, X = u32s (Kl.take t) := ⟨_, rfl⟩
   rw [← hx] at hcube hnx
   rw [← hX] at how hnx hol
   have hb4 : (X.length + 1) * 4 ≤ 140737488355328 := by omega
   have hb5 : X.length < 140737488355328 := by omega
   have hlL : (t : Int) < (L : Int) := by omega
   have CUBE := zh hcube; have NX := zh hnx; have OW := zh how; have BR := zh hbr; have H4 := zh hb4; have H5 := zh hb5
   clear hcube hnx how hbr hb4 hb5 hpp hx hX hol
   go_wp2_with (first
    | (go_at_call 108; refine (CUBE.out _).mono ?_; rintro e w' ⟨rfl, rfl⟩)
    | (at_builtin; refine wpList_append_lit zr _ _ 151 zr (.int .u32 (V x)) (.int .u32 0) 4 elemW zr zr OW.out zr zr H4.out H5.out BR.out.size ?_; intro v' w' ho' _ hb' _; have OW' := zh ho'; have BR' := zh (BR.out.trans hb'); clear ho' hb'))
   go_roundw
   case rel => exact ⟨t + 1, by omega, by go_num, by rw [NX.out]; exact OW'.out, BR'.out⟩
   case measure => simp [intOf]; omega
  ·have ht64 : t = 64 := by omega
   have hall : Kl.take t = Kl := List.take_of_length_le (by rw [ht64]; decide)
   rw [hall] at how
   have hge : ¬ (t : Int) < 64 := by omega
   have OWK := zh how; have BR := zh hbr
   clear how hbr hall ht64 hlt hol ht
   go_wp2_with fail
   obtain ⟨wo, rfl⟩ : ∃ wo : World, wo = wr := ⟨_, rfl⟩
   go_loopw [4, 6] (fun v i wr => ARel2 w1 u3 v i wr) (fun _ i _ => 8 - (intOf i).toNat)
   case atStart => exact ⟨0, by omega, rfl, OwnV.nil _ _ _, OWK.out, fun g _ => by simp [Value.ownBlock], BR.out⟩
   case round =>
    obtain ⟨t2, ht, rfl, how, hok, hne, hbr⟩ := hrel
    have hol : (u32s (IVl.take t2)).length = t2 := by rw [u32s_length, List.length_take]; exact Nat.min_eq_left ht
    by_cases hlt : t2 < 8
    ·have cp : wr.cell? ⟨gp, t2, none⟩ = some (.int .u64 (((pr 312).getD t2 0 : Nat) : Int)) := by rw [hbr.cell (p := ⟨gp, t2, none⟩) hgp]; exact PC.out t2 (by omega)
     obtain ⟨p, hpp⟩ : ∃ p : Int, p = (((pr 312).getD t2 0 : Nat) : Int) := ⟨_, rfl⟩
     rw [← hpp] at cp
     have hsq := fun wx => square_any p wx (by rw [hpp]; exact Int.natCast_nonneg _)
     rw [show sqGo p 36 0 % (4294967296 : Int) = V (IVl.getD t2 0) by rw [hpp]; exact square_at t2 hlt] at hsq
     have hnx := u32s_next IVl t2 hlt
     obtain ⟨x, hx⟩ : ∃ x, x = IVl.getD t2 0 := ⟨_, rfl⟩
     obtain ⟨X, hX⟩ : ∃ X, X = u32s (IVl.take t2) := ⟨_, rfl⟩
     rw [← hx] at hsq hnx
     rw [← hX] at how hnx hol
     have hb4 : (X.length + 1) * 4 ≤ 140737488355328 := by omega
     have hb5 : X.length < 140737488355328 := by omega
     have hlL : (t2 : Int) < (L : Int) := by omega
     have SQ := zh hsq; have NX := zh hnx; have OW := zh how; have OK := zh hok; have NE := zh hne; have BRR := zh hbr; have H4 := zh hb4; have H5 := zh hb5
     clear hsq hnx how hok hne hbr hb4 hb5 hpp hx hX hol
     go_wp2_with (first
      | (go_at_call 109; refine (SQ.out _).mono ?_; rintro e w' ⟨rfl, rfl⟩)
      | (at_builtin; refine wpList_append_lit zr _ _ 151 zr (.int .u32 (V x)) (.int .u32 0) 4 elemW zr zr OW.out zr zr H4.out H5.out BRR.out.size ?_; intro v' w' ho' hk' hb' hg'; have OW' := zh ho'; have OK' := zh (OK.out.keep fun g hg => hk' g (OK.out.lt g hg).2 (NE.out g hg)); have NE' : Hid (∀ g, u3.ownBlock = some g → v'.ownBlock ≠ some g) := (fun g hg => by (rcases hg' with e | ⟨g', e, hlo⟩); (rw [e]; exact NE.out g hg); (rw [e]; intro e'; injection e' with e'; have := (OK.out.lt g hg).2; omega)); have BR' := zh (BRR.out.trans hb'); clear ho' hk' hb' hg'))
     go_roundw
     case rel => exact ⟨t2 + 1, by omega, by go_num, by rw [NX.out]; exact OW'.out, OK'.out, NE'.out, BR'.out⟩
     case measure => simp [intOf]; omega
    ·have ht8 : t2 = 8 := by omega
     have hall : IVl.take t2 = IVl := List.take_of_length_le (by rw [ht8]; decide)
     rw [hall] at how
     have hge : ¬ (t2 : Int) < 8 := by omega
     have OWF := zh how; have OK := zh hok; have BRR := zh hbr
     clear how hok hne hbr hall ht8 hlt hol ht
     go_wp2_with fail
     go_ret2
     exact ⟨_, _, rfl, ownV_more OK.out HB.out.size, ownV_more OWF.out HB.out.size, HB.out.trans (BRR.out.mono HB.out.size)⟩
end Sha
end Go.Proofs.YtajdpbbbocnfiaaGreatDoor
