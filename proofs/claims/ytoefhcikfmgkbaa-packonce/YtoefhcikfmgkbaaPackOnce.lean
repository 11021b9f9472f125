/- Layer 5, PackOnce: bytes that are read as texts in places are those of these texts. -/
import Derived.Test.YtoefhcikfmgkbaaPackLive
import Derived.Test.YtoefhcikfmgkbaaPackTake
import Derived.Test.YtoefhcikfmgkbaaSame
namespace Go.Proofs.Ytoefhcikfmgkbaa
namespace Sha
open Go.RowKit Mem
structure OInv5 (R : RdAcc) (b : List (BitVec 8)) (br : Nat) (w : World) (k : Nat) (v : Value) (wr : World) : Prop where
  h : ∃ (back b' : List (BitVec 8)) (e' : Nat), Sl wr v back ∧ R wr br b' e' ∧ back.length ≤ 256 * k ∧ b'.length ≤ 1000 ∧ e' ≤ 100 ∧ (e' = 0 → back ++ b' = b)
  b : Below w.heap.size w wr
set_option maxRecDepth 100000 in
set_option maxHeartbeats 2000000 in
theorem once_law {R : RdAcc} (C : PackC R) (b ps : List (BitVec 8)) (vb vp : Value) (w : World) (hb : Sl w vb b) (hp : Sl w vp ps) (bl : b.length ≤ 9223372036854775807) (pl : ps.length ≤ 9223372036854775807) :
    Calls Try.prog 6 #[vb, vp] w fun e w' => e = .returned (.bool true) ∧ Below w.heap.size w w' := by
  have hal := fun wx => alive5_any C wx
  have hb0 := hb
  have hp0 := hp
  obtain ⟨ab, capb, rfl, _, _⟩ := hb
  obtain ⟨ap, capp, rfl, _, _⟩ := hp
  obtain ⟨m, hm⟩ : ∃ m, m = b.length := ⟨_, rfl⟩
  obtain ⟨n, hn⟩ : ∃ n, n = ps.length := ⟨_, rfl⟩
  rw [← hm] at hb0 bl ⊢
  rw [← hn] at hp0 pl ⊢
  have CC := Lib.hid C; have AL := Lib.hid hal; have HB := Lib.hid hb0; have HP := Lib.hid hp0; have HM := Lib.hid hm; have HN := Lib.hid hn
  clear C hal hb0 hp0 hm hn
  go_enter Try.func6, Try.ntmps6
  go_wp2_with fail
  refine (CC.out.nnum _).mono ?_
  rintro e w1 ⟨rfl, b1⟩
  have E1 := Lib.hid b1
  clear b1
  go_wp2_with fail
  refine (CC.out.ntext _).mono ?_
  rintro e w2 ⟨v2, rfl, s2, b2⟩
  have E2 := Lib.hid (E1.out.trans (b2.mono E1.out.size))
  obtain ⟨a2, cap2, rfl, _, _⟩ := s2
  rw [show ([] : List (BitVec 8)).length = 0 from rfl]
  clear b2 E1
  go_wp2_with fail
  refine (CC.out.nbytes _).mono ?_
  rintro e w3 ⟨v3, rfl, s3, b3⟩
  have E3 := Lib.hid (E2.out.trans (b3.mono E2.out.size))
  obtain ⟨a3, cap3, rfl, _, _⟩ := s3
  rw [show ([] : List (BitVec 8)).length = 0 from rfl]
  clear b3 E2
  go_wp2_with fail
  refine (CC.out.nleft _).mono ?_
  rintro e w4 ⟨rfl, b4⟩
  have E4 := Lib.hid (E3.out.trans (b4.mono E3.out.size))
  clear b4 E3
  go_wp2_with fail
  refine (CC.out.nerr _).mono ?_
  rintro e w5 ⟨rfl, b5⟩
  have E5 := Lib.hid (E4.out.trans (b5.mono E4.out.size))
  clear b5 E4
  go_wp2_with fail
  refine (CC.out.nrest _).mono ?_
  rintro e w6 ⟨rfl, b6⟩
  have E6 := Lib.hid (E5.out.trans (b6.mono E5.out.size))
  clear b6 E5
  go_wp2_with fail
  by_cases hf : 1000 < m
  · refine (far5_yes m ab capb w6 hf bl).mono ?_
    rintro e w' ⟨rfl, rfl⟩
    go_wp2_with fail
    refine (AL.out _).mono ?_
    rintro e w7 ⟨rfl, b7⟩
    have E7 := Lib.hid (E6.out.trans (b7.mono E6.out.size))
    clear b7 E6
    go_wp2_with fail
    go_ret
    exact ⟨rfl, E7.out⟩
  · have m1000 : m ≤ 1000 := by omega
    refine (far5_no m ab capb w6 m1000).mono ?_
    rintro e w' ⟨rfl, rfl⟩
    by_cases hn20 : 20 < n
    · have g1 : (n : Int) > 20 := by omega
      go_wp2_with fail
      refine (AL.out _).mono ?_
      rintro e w7 ⟨rfl, b7⟩
      have E7 := Lib.hid (E6.out.trans (b7.mono E6.out.size))
      clear b7 E6
      go_wp2_with fail
      go_ret
      exact ⟨rfl, E7.out⟩
    · have n20 : n ≤ 20 := by omega
      have g1 : ¬ (n : Int) > 20 := by omega
      have hrd := fun wx (h : Below w.heap.size w wx) => CC.out.read b (.slice ab m capb) wx (HB.out.below h) (by rw [← HM.out]; omega)
      have RE := Lib.hid hrd
      clear hrd
      go_wp2_with fail
      refine (RE.out _ E6.out).mono ?_
      rintro e w7 ⟨br, rfl, hbr, r7, b7⟩
      have BR := Lib.hid (Nat.le_trans E6.out.size hbr)
      have I7 := Lib.hid (⟨⟨[], b, 0, sl_none _, r7, by simp, by rw [← HM.out]; omega, by omega, fun _ => rfl⟩, E6.out.trans (b7.mono E6.out.size)⟩ : OInv5 R b br w 0 (.slice none 0 0) w7)
      clear r7 b7 hbr E6 RE
      go_wp2_with fail
      go_loopw [7, 51] (fun bk i wr => ∃ j : Nat, j ≤ n ∧ i = .int .i64 j ∧ OInv5 R b br w j bk wr) (fun _ i _ => n - (intOf i).toNat)
      case atStart => exact ⟨0, by omega, rfl, I7.out⟩
      case round =>
        clear I7
        obtain ⟨j, hj, rfl, hI⟩ := hrel
        obtain ⟨back, b', e', sB, rB, lB, lb', le', hok⟩ := hI.h
        have EB := Lib.hid hI.b; have SB := Lib.hid sB; have RB := Lib.hid rB; have OK := Lib.hid hok
        clear hI sB rB hok
        by_cases hlt : j < n
        · have hlt' : (j : Int) < (n : Int) := by omega
          have hpp := HP.out.below EB.out
          obtain ⟨b1, o1, ha1, cx⟩ := sl_at (i := j) (a := ap) (cap := capp) (l := ps) (by rw [← HN.out]; exact hpp) (by rw [← HN.out]; exact hlt)
          obtain ⟨q, hq⟩ : ∃ q : Nat, q = (ps.getD j 0).toNat := ⟨_, rfl⟩
          have q255 : q ≤ 255 := by have := (ps.getD j 0).isLt; omega
          have hbx : B8 (ps.getD j 0) = (q : Int) := by unfold B8; omega
          rw [hbx] at cx
          obtain ⟨K, hK⟩ : ∃ K, K = cutN (q : Int) 1 255 := ⟨_, rfl⟩
          have hmax : max (q : Int) 1 = (K : Int) := by rw [hK, cutN_val _ _ _ (by decide)]; omega
          have K1 : 1 ≤ K := by omega
          have K255 : K ≤ 255 := by omega
          have hsm := rdText_small b' e' K le'
          have htk := rdText_ok b' e' K
          have htx := CC.out.ptext b' e' (q : Int) br wr RB.out (by omega) le' (by omega) (by omega)
          rw [← hK] at htx
          obtain ⟨T, hT⟩ : ∃ T, T = rdText b' e' K := ⟨_, rfl⟩
          rw [← hT] at hsm htk htx
          subst ha1
          have TK := Lib.hid htk; have TX := Lib.hid htx; have SMA := Lib.hid hsm
          clear htk htx hsm hT hK hq hbx hpp
          go_wp2_with fail
          refine TX.out.mono ?_
          rintro e w8 ⟨v8, rfl, s8, p8⟩
          have sb8 := CC.out.keep RB.out p8.o SB.out
          have R8 := Lib.hid p8.r; have E8 := Lib.hid (p8.k _ _ EB.out BR.out)
          have hte := CC.out.text back T.x K _ v8 w8 sb8 s8 (by omega) K1 K255 SMA.out.1
          have TE := Lib.hid hte
          clear p8 sb8 s8 hte cx EB RB TX
          go_wp2_with fail
          refine TE.out.mono ?_
          rintro e w9 ⟨v9, rfl, s9, b9⟩
          have E9 := Lib.hid (E8.out.trans (b9.mono E8.out.size)); have R9 := Lib.hid (CC.out.below R8.out b9); have S9 := Lib.hid s9
          clear b9 s9 R8 E8 TE
          go_wp2_with fail
          go_roundw
          case rel =>
            refine ⟨j + 1, by omega, by go_num, ⟨⟨_, T.b, T.e, S9.out, R9.out, ?_, ?_, SMA.out.2.2, fun h0 => ?_⟩, E9.out⟩⟩
            · have h1 := textB_length T.x K SMA.out.1
              rw [List.length_append, h1]; omega
            · have := SMA.out.2.1; omega
            · have h1 := TK.out h0
              rw [List.append_assoc, h1.2]; exact OK.out h1.1
          case measure => simp [intOf]; omega
        · have hjn : j = n := by omega
          have hge : ¬ (j : Int) < (n : Int) := by omega
          subst hjn
          have sB := SB.out
          obtain ⟨a9, cap9, rfl, _, _⟩ := sB
          go_wp2_with fail
          refine (CC.out.perr b' e' br wr RB.out (by omega) le').mono ?_
          rintro e w8 ⟨rfl, p8⟩
          have E8 := Lib.hid (p8.k _ _ EB.out BR.out); have R8 := Lib.hid p8.r; have S8 := Lib.hid (CC.out.keep RB.out p8.o SB.out)
          clear p8 EB RB
          by_cases h0 : e' = 0
          · subst h0
            have hbb := OK.out rfl
            obtain ⟨k, hk⟩ : ∃ k, k = back.length := ⟨_, rfl⟩
            obtain ⟨L, hL⟩ : ∃ L, L = b'.length := ⟨_, rfl⟩
            have hmk : m = k + L := by rw [HM.out, ← hbb, List.length_append, hk, hL]
            have htk : b.take k = back := by rw [← hbb, hk, List.take_left]
            have s8 := S8.out
            rw [← hk] at s8 ⊢
            have hle : (k : Int) ≤ (m : Int) := by omega
            have hsub : (m : Int) - (k : Int) = (L : Int) := by omega
            have B8' := Lib.hid (HB.out.below E8.out)
            have hlf := CC.out.pleft b' 0 br
            rw [show rdLeft b' 0 = L by rw [hL]; rfl] at hlf
            have hsame := fun (v : Value) (wx : World) (h1 : Sl wx (.slice a9 k cap9) back) (h2 : Sl wx v (b.take k)) => same_any back (b.take k) _ v wx h1 h2 (by omega) (by rw [htk]; omega)
            rw [htk, sameB_self] at hsame
            have TKK := Lib.hid htk; have SM := Lib.hid hsame; have LF := Lib.hid hlf; have SS := Lib.hid s8; have KM : k ≤ m := by omega
            have LB := Lib.hid lb'
            clear hbb hk hL htk s8 hlf hsame S8 OK lB hmk
            go_wp2_with (first
              | (refine wpList_piece_to (by rfl) 22 _ _ (by rfl) Try.underlying22 ab m capb k b HM.out.symm (by rfl) B8'.out (by rfl) KM ?_; intro hp1; have P1 := Lib.hid hp1; clear hp1))
            refine (SM.out (.slice (pieceA ab capb 0) k capb) w8 SS.out (by have h := P1.out; rw [TKK.out] at h; exact h)).mono ?_
            rintro e w9 ⟨rfl, b9⟩
            have E9 := Lib.hid (E8.out.trans (b9.mono E8.out.size)); have R9 := Lib.hid (CC.out.below R8.out b9)
            clear b9 E8 R8
            go_wp2_with fail
            refine (LF.out w9 R9.out (by have := LB.out; omega) (by omega)).mono ?_
            rintro e w10 ⟨rfl, p10⟩
            have E10 := Lib.hid (p10.k _ _ E9.out BR.out)
            clear p10 E9
            go_wp2_with fail
            refine (AL.out _).mono ?_
            rintro e w11 ⟨rfl, b11⟩
            have E11 := Lib.hid (E10.out.trans (b11.mono E10.out.size))
            clear b11 E10
            go_wp2_with fail
            go_ret
            exact ⟨rfl, E11.out⟩
          · have hne : ¬ (e' : Int) = 0 := by omega
            go_wp2_with fail
            refine (AL.out _).mono ?_
            rintro e w9 ⟨rfl, b9⟩
            have E9 := Lib.hid (E8.out.trans (b9.mono E8.out.size))
            clear b9 E8
            go_wp2_with fail
            go_ret
            exact ⟨rfl, E9.out⟩
end Sha
end Go.Proofs.Ytoefhcikfmgkbaa
