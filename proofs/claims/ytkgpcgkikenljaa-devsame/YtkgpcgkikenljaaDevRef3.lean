/- The document's store: Write refused, Tamper, Restore: walks. -/
import Derived.Test.YtkgpcgkikenljaaDevRef2
namespace Go.Proofs.Ytkgpcgkikenljaa
namespace Sha
open Go.RowKit Mem
set_option maxRecDepth 100000 in
set_option maxHeartbeats 1000000 in
theorem rwrite_bad {F : Foot} {br : Nat} {s : St6} (n : Int) (x : List (BitVec 8)) (vx : Value) (w : World) (hr : RSt F br w s) (hx : Sl w vx x) (_hb : s.n ≤ 1024) (_hxl : x.length ≤ 1000000) (hbad : n < 0 ∨ (s.n : Int) ≤ n ∨ x.length ≠ 256) :
    Calls Try.prog 33 #[rq br, .int .i64 n, vx] w fun e w' => e = .returned (.int .i64 1) ∧ w = w' := by
  obtain ⟨vb, vw, vs, vt, hv⟩ := hr.v
  obtain ⟨ax, capx, rfl, _, _⟩ := hx
  obtain ⟨N, hN⟩ : ∃ N, N = s.n := ⟨_, rfl⟩
  obtain ⟨L, hL⟩ : ∃ L, L = x.length := ⟨_, rfl⟩
  have hrow := hv.row
  rw [← hN] at _hb hrow hbad
  rw [← hL] at _hxl hbad ⊢
  have c0 : w.cell? ⟨br, 0, none⟩ = some (.int .i64 (N : Int)) := by rw [hrow.cell]; rfl
  clear hr hv hrow hN hL
  by_cases h1 : n < 0
  · clear hbad
    go_enter Try.func33, Try.ntmps33
    go_wp2
    go_ret
    exact ⟨rfl, rfl⟩
  · by_cases h2 : (N : Int) ≤ n
    · clear hbad
      go_enter Try.func33, Try.ntmps33
      go_wp2
      go_ret
      exact ⟨rfl, rfl⟩
    · have h3 : ¬ (L : Int) = 256 := by omega
      have h4 : ((L : Int) != 256) = true := by simpa using h3
      clear hbad
      go_enter Try.func33, Try.ntmps33
      go_wp2
      go_ret
      exact ⟨rfl, rfl⟩
def stTamper (s : St6) (k : Nat) (x : List (BitVec 8)) : St6 := { s with b := laidL s.b k x }
set_option maxRecDepth 100000 in
set_option maxHeartbeats 1000000 in
theorem rtamper_good {F : Foot} {br : Nat} {s : St6} (n k : Nat) (x : List (BitVec 8)) (vx : Value) (w : World) (hr : RSt F br w s) (hx : Sl w vx x) (hb : s.n ≤ 1024) (hn : n < s.n) (hl : s.b.length = s.n * 256) (hk : k + x.length ≤ 256) :
    Calls Try.prog 30 #[rq br, .int .i64 (n : Int), .int .i64 (k : Int), vx] w fun e w' => e = .returned (.int .i64 0) ∧ StEnd RSt F br w (stTamper s (n * 256 + k) x) w' := by
  obtain ⟨vb, vw, vs, vt, hv⟩ := hr.v
  have hla := laid_any s.b x (n * 256 + k) vb vx w hv.four.fb.sl hx (by omega) (by omega)
  rw [show ((n * 256 + k : Nat) : Int) = (n : Int) * 256 + (k : Int) by omega] at hla
  obtain ⟨ax, capx, rfl, _, _⟩ := hx
  obtain ⟨N, hN⟩ : ∃ N, N = s.n := ⟨_, rfl⟩
  obtain ⟨L, hL⟩ : ∃ L, L = x.length := ⟨_, rfl⟩
  have hrow := hv.row
  rw [← hN] at hn hb hrow
  rw [← hL] at hla hk ⊢
  obtain ⟨ab, capb, rfl⟩ := hv.four.fb.hd
  obtain ⟨T, hT⟩ : ∃ T, T = s.b.length := ⟨_, rfl⟩
  rw [← hT] at hv hla hrow
  have c0 : w.cell? ⟨br, 0, none⟩ = some (.int .i64 (N : Int)) := by rw [hrow.cell]; rfl
  have c1 : w.cell? ⟨br, 1, none⟩ = some (.slice ab T capb) := by rw [hrow.cell]; rfl
  have g1 : ¬ (N : Int) ≤ (n : Int) := by omega
  have g2 : ¬ (256 : Int) < (k : Int) := by omega
  have g3 : ¬ (256 - (k : Int)) < (L : Int) := by omega
  have HV := Lib.hid hv; have LA := Lib.hid hla; have HN := Lib.hid hN; have HROW := Lib.hid hrow
  clear hr hv hla hN hL hT hrow hl
  go_enter Try.func30, Try.ntmps30
  go_wp2_with fail
  refine LA.out.mono ?_
  rintro o w2 ⟨v2, rfl, ho2, hb2⟩
  obtain ⟨M, hM⟩ : ∃ M, M = (laidL s.b (n * 256 + k) x).length := ⟨_, rfl⟩
  obtain ⟨a2, c2, rfl⟩ := own_hd ho2 hM
  have O2 := Lib.hid ho2; have B2 := Lib.hid hb2
  clear ho2 hb2 hM
  go_wp2_with (refine Mem.wpList_store_one (by rfl) 27 _ _ (by rfl) (by rfl) br 1 (.slice a2 M c2) (by rfl) (by rfl) (by rfl) infoBs _ 32 (HROW.out.below B2.out HV.out.br) (by simp [stRow]) ?_; intro w8 ha ho hk; have R8 := Lib.hid (rv_set (n' := N) (s' := stTamper s (n * 256 + k) x) HV.out B2.out HN.out (by exact ha) ho hk ⟨O2.out.slB.mono (fun k hk _ => ⟨.inr hk, by have := HV.out.br; omega⟩), (four_old HV.out.four B2.out).fw, (four_old HV.out.four B2.out).fs, (four_old HV.out.four B2.out).ft⟩); clear ha ho hk)
  go_ret
  exact ⟨rfl, rv_end R8.out.1 R8.out.2⟩
set_option maxRecDepth 100000 in
set_option maxHeartbeats 1000000 in
theorem rtamper_bad {F : Foot} {br : Nat} {s : St6} (n k : Int) (x : List (BitVec 8)) (vx : Value) (w : World) (hr : RSt F br w s) (hx : Sl w vx x) (_hb : s.n ≤ 1024) (_hxl : x.length ≤ 1000000) (hbad : n < 0 ∨ (s.n : Int) ≤ n ∨ k < 0 ∨ 256 < k ∨ 256 - k < x.length) :
    Calls Try.prog 30 #[rq br, .int .i64 n, .int .i64 k, vx] w fun e w' => e = .returned (.int .i64 1) ∧ w = w' := by
  obtain ⟨vb, vw, vs, vt, hv⟩ := hr.v
  obtain ⟨ax, capx, rfl, _, _⟩ := hx
  obtain ⟨N, hN⟩ : ∃ N, N = s.n := ⟨_, rfl⟩
  obtain ⟨L, hL⟩ : ∃ L, L = x.length := ⟨_, rfl⟩
  have hrow := hv.row
  rw [← hN] at _hb hrow hbad
  rw [← hL] at _hxl hbad ⊢
  have c0 : w.cell? ⟨br, 0, none⟩ = some (.int .i64 (N : Int)) := by rw [hrow.cell]; rfl
  clear hr hv hrow hN hL
  by_cases h1 : n < 0
  · clear hbad
    go_enter Try.func30, Try.ntmps30
    go_wp2
    go_ret
    exact ⟨rfl, rfl⟩
  · by_cases h2 : (N : Int) ≤ n
    · clear hbad
      go_enter Try.func30, Try.ntmps30
      go_wp2
      go_ret
      exact ⟨rfl, rfl⟩
    · by_cases h3 : k < 0
      · clear hbad
        go_enter Try.func30, Try.ntmps30
        go_wp2
        go_ret
        exact ⟨rfl, rfl⟩
      · by_cases h4 : 256 < k
        · clear hbad
          go_enter Try.func30, Try.ntmps30
          go_wp2
          go_ret
          exact ⟨rfl, rfl⟩
        · have h5 : 256 - k < (L : Int) := by omega
          clear hbad
          go_enter Try.func30, Try.ntmps30
          go_wp2
          go_ret
          exact ⟨rfl, rfl⟩
def stRestore (s : St6) (k : Nat) : St6 := { s with b := s.sh.getD k [], w := [] }
set_option maxRecDepth 100000 in
set_option maxHeartbeats 1000000 in
theorem rrestore_bad {F : Foot} {br : Nat} {s : St6} (k : Int) (w : World) (hr : RSt F br w s) (_hs : s.sh.length ≤ 1000000) (hbad : k < 0 ∨ (s.sh.length : Int) ≤ k) :
    Calls Try.prog 32 #[rq br, .int .i64 k] w fun e w' => e = .returned (.int .i64 6) ∧ w = w' := by
  obtain ⟨vb, vw, vs, vt, hv⟩ := hr.v
  obtain ⟨asx, caps, rfl⟩ := hv.four.fs.hd
  obtain ⟨L, hL⟩ : ∃ L, L = s.sh.length := ⟨_, rfl⟩
  have hrow := hv.row
  rw [← hL] at _hs hrow hbad
  have c3 : w.cell? ⟨br, 3, none⟩ = some (.slice asx L caps) := by rw [hrow.cell]; rfl
  clear hr hv hrow hL
  by_cases h1 : k < 0
  · clear hbad
    go_enter Try.func32, Try.ntmps32
    go_wp2
    go_ret
    exact ⟨rfl, rfl⟩
  · have h2 : (L : Int) ≤ k := by omega
    clear hbad
    go_enter Try.func32, Try.ntmps32
    go_wp2
    go_ret
    exact ⟨rfl, rfl⟩
set_option maxRecDepth 100000 in
set_option maxHeartbeats 1000000 in
theorem rrestore_good {F : Foot} {br : Nat} {s : St6} (k : Nat) (w : World) (hr : RSt F br w s) (_hs : s.sh.length ≤ 1000000) (hk : k < s.sh.length) :
    Calls Try.prog 32 #[rq br, .int .i64 (k : Int)] w fun e w' => e = .returned (.int .i64 0) ∧ StEnd RSt F br w (stRestore s k) w' := by
  obtain ⟨vb, vw, vs, vt, hv⟩ := hr.v
  obtain ⟨asx, caps, rfl⟩ := hv.four.fs.hd
  obtain ⟨hh, he, hsr⟩ := hv.four.fs
  obtain ⟨b1, o1, e1, _, hc⟩ := slR_at hsr hk
  subst e1
  obtain ⟨vh, hp, hsl⟩ := he.at (List.getElem?_eq_getElem hk)
  have hch := hc 0 (by decide)
  rw [Nat.one_mul, Nat.add_zero, hp] at hch
  have hgd : s.sh.getD k [] = s.sh[k] := by simp [List.getD_eq_getElem?_getD, hk]
  rw [← hgd] at hsl
  obtain ⟨ah, caph, rfl⟩ := hsl.hd
  obtain ⟨T, hT⟩ : ∃ T, T = (s.sh.getD k []).length := ⟨_, rfl⟩
  obtain ⟨L, hL⟩ : ∃ L, L = s.sh.length := ⟨_, rfl⟩
  rw [← hT] at hch hsl
  have hrow := hv.row
  rw [← hL] at _hs hrow hk hv
  have c3 : w.cell? ⟨br, 3, none⟩ = some (.slice (some ⟨b1, o1, none⟩) L caps) := by rw [hrow.cell]; rfl
  have g1 : ¬ (L : Int) ≤ (k : Int) := by omega
  have HV := Lib.hid hv; have HSL := Lib.hid hsl; have HROW := Lib.hid hrow
  clear hr hv hrow hL hT hsl hgd hp hc hsr he
  go_enter Try.func32, Try.ntmps32
  go_wp2_with (first
    | (refine Mem.wpList_store_one (by rfl) 27 _ _ (by rfl) (by rfl) br 1 (.slice ah T caph) (by rfl) (by rfl) (by rfl) infoBs _ 32 HROW.out (by simp [stRow]) ?_; intro w8 ha ho hk; have R8 := Lib.hid (rv_set (n' := s.n) (s' := { s with b := s.sh.getD k [] }) HV.out (Below.refl _ _) rfl (by exact ha) ho hk ⟨HSL.out.mono (fun k hk _ => ⟨.inl hk.1, hk.2⟩), (four_old HV.out.four (Below.refl _ _)).fw, (four_old HV.out.four (Below.refl _ _)).fs, (four_old HV.out.four (Below.refl _ _)).ft⟩); clear ha ho hk)
    | (refine Mem.wpList_store_one (by rfl) 28 _ _ (by rfl) (by rfl) br 2 (.slice none 0 0) (by rfl) (by rfl) (by rfl) infoPuts _ 32 R8.out.1.row (by simp [stRow]) ?_; intro w9 ha ho hk; have R9 := Lib.hid (rv_set (n' := s.n) (s' := stRestore s k) R8.out.1 (Below.refl _ _) rfl (by exact ha) ho hk ⟨(four_old R8.out.1.four (Below.refl _ _)).fb, wPut_nil _ _, (four_old R8.out.1.four (Below.refl _ _)).fs, (four_old R8.out.1.four (Below.refl _ _)).ft⟩); clear ha ho hk))
  go_ret
  exact ⟨rfl, StEnd.trans R8.out.2 grow_ext (rv_end R9.out.1 R9.out.2)⟩
end Sha
end Go.Proofs.Ytkgpcgkikenljaa
