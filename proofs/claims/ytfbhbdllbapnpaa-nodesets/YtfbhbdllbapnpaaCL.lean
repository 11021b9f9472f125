/- Layer 13: NodeLays, over the contracts. -/
import Derived.Test.YtfbhbdllbapnpaaBD
namespace Go.Proofs.Ytfbhbdllbapnpaa
namespace Sha
open Go.RowKit Mem
set_option maxRecDepth 100000
theorem layN_short (L : List RefV) (hw : ∀ r ∈ L, r.Wf) : (layN L).1.length ≤ 256 := by
  rcases layN_err L with h | h
  · have e : layN L = ((layN L).1, 0) := by rw [← h]
    rw [layN_length hw e]
    exact Nat.le_refl _
  · rw [layN_bad (by rw [h]; decide)]
    exact Nat.zero_le _
set_option maxHeartbeats 1000000 in
theorem lays13_core (S : NodeP) (L : List RefV) (v : Value) (w : World) (hv : SlRf w v L) (hw : ∀ r ∈ L, r.Wf) : Calls Try.prog 3 #[v] w fun e w' => e = .returned (.bool true) ∧ Below w.heap.size w w' := by
  have AL := Lib.hid (fun wx => alive13_any S wx)
  by_cases h100 : 100 < L.length
  · obtain ⟨a, c, rfl⟩ := hv.hd
    obtain ⟨n, hn⟩ : ∃ n, n = L.length := ⟨_, rfl⟩
    rw [← hn] at h100 ⊢
    have g : (100 : Int) < (n : Int) := by omega
    clear hv hw hn h100
    go_enter Try.func3, Try.ntmps3
    go_wp2_with fail
    refine (AL.out _).mono ?_
    rintro e w2 ⟨rfl, hb2⟩
    have B2 := Lib.hid hb2
    clear hb2
    go_wp2_with fail
    go_ret
    exact ⟨rfl, B2.out⟩
  · have th := theirs13_any L v w hv hw (by omega)
    have pl := fun vx wx h => S.lay L vx wx h hw (by omega)
    have rl := fun vx wx h => rlayN_any L vx wx h hw (by omega)
    have hsh := layN_short L hw
    obtain ⟨p, hp⟩ : ∃ p, p = (layN L).1 := ⟨_, rfl⟩
    obtain ⟨m, hm⟩ : ∃ m, m = (layN L).2 := ⟨_, rfl⟩
    rw [← hp, ← hm] at pl rl
    rw [← hp] at hsh
    have sm := fun va vb wx (h1 : Sl wx va p) (h2 : Sl wx vb p) => same_any p p va vb wx h1 h2 (by omega) (by omega)
    rw [sameB_self] at sm
    have HV := Lib.hid hv
    obtain ⟨a, c, rfl⟩ := hv.hd
    obtain ⟨n, hn⟩ : ∃ n, n = L.length := ⟨_, rfl⟩
    rw [← hn] at h100 th HV ⊢
    have g : ¬ (100 : Int) < (n : Int) := by omega
    have TH := Lib.hid th; have PL := Lib.hid pl; have RL := Lib.hid rl; have SM := Lib.hid sm
    clear hv hw hn h100 th pl rl sm hp hm hsh
    go_enter Try.func3, Try.ntmps3
    go_wp2_with fail
    refine (TH.out).mono ?_
    rintro e w2 ⟨v2, rfl, hs2, hb2⟩
    have S2 := Lib.hid hs2; have B2 := Lib.hid hb2; have V2 := Lib.hid (HV.out.below hb2)
    clear hs2 hb2
    go_wp2_with fail
    refine (PL.out _ _ S2.out).mono ?_
    rintro e w3 ⟨v3, rfl, hs3, hb3⟩
    have S3 := Lib.hid hs3; have B3 := Lib.hid (B2.out.trans (hb3.mono B2.out.size)); have V3 := Lib.hid (V2.out.below hb3)
    clear hs3 hb3
    go_wp2_with fail
    refine (RL.out _ _ V3.out).mono ?_
    rintro e w4 ⟨v4, rfl, hs4, hb4⟩
    have S4 := Lib.hid hs4; have B4 := Lib.hid (B3.out.trans (hb4.mono B3.out.size)); have T4 := Lib.hid (S3.out.below hb4)
    clear hs4 hb4
    go_wp2_with fail
    refine (SM.out _ _ _ T4.out S4.out).mono ?_
    rintro e w5 ⟨rfl, hb5⟩
    have B5 := Lib.hid (B4.out.trans (hb5.mono B4.out.size))
    clear hb5
    go_wp2_with fail
    refine (AL.out _).mono ?_
    rintro e w6 ⟨rfl, hb6⟩
    have B6 := Lib.hid (B5.out.trans (hb6.mono B5.out.size))
    clear hb6
    go_wp2_with fail
    go_ret
    exact ⟨rfl, B6.out⟩
end Sha
end Go.Proofs.Ytfbhbdllbapnpaa
