/- Layer 5, PackBack: what is put is read. -/
import Derived.Test.YtoefhcikfmgkbaaPackLive
import Derived.Test.YtoefhcikfmgkbaaPackPut
import Derived.Test.YtoefhcikfmgkbaaSlK
import Derived.Test.YtoefhcikfmgkbaaSame
namespace Go.Proofs.Ytoefhcikfmgkbaa
namespace Sha
open Go.RowKit Mem
structure BInv5 (ns : List Nat) (w : World) (j : Nat) (v : Value) (wr : World) : Prop where
  h : ∃ B : List (BitVec 8), Sl wr v B ∧ B ++ packN (ns.drop j) j = packN ns 0 ∧ B.length ≤ 8 * j
  b : Below w.heap.size w wr
structure CInv5 (R : RdAcc) (ns : List Nat) (t : List (BitVec 8)) (br : Nat) (w : World) (j : Nat) (wr : World) : Prop where
  h : R wr br (packN (ns.drop j) j ++ t) 0
  b : Below w.heap.size w wr
theorem getD_cast (ns : List Nat) (j : Nat) : (ns.map (fun (x : Nat) => (x : Int))).getD j 0 = ((ns.getD j 0 : Nat) : Int) := by
  simp only [List.getD_eq_getElem?_getD, List.getElem?_map]
  cases ns[j]? <;> rfl
set_option maxRecDepth 100000 in
set_option maxHeartbeats 4000000 in
theorem back_law {R : RdAcc} (C : PackC R) (ns : List Nat) (s : List (BitVec 8)) (p : Nat) (vn vs : Value) (w : World) (hn : SlK w .u64 vn (ns.map (fun (x : Nat) => (x : Int)))) (hs : Sl w vs s) (hp : p ≤ 255) (nl : ns.length ≤ 9223372036854775807) (sl : s.length ≤ 9223372036854775807) (h64 : ∀ x ∈ ns, x < 18446744073709551616) :
    Calls Try.prog 5 #[vn, vs, .int .u8 (p : Int)] w fun e w' => e = .returned (.bool true) ∧ Below w.heap.size w w' := by
  have hal := fun wx => alive5_any C wx
  have hn0 := hn
  have hs0 := hs
  obtain ⟨an, capn, rfl, _, _⟩ := hn
  obtain ⟨as0, caps, rfl, _, _⟩ := hs
  rw [List.length_map] at hn0 ⊢
  have hx64 : ∀ j, ns.getD j 0 < 18446744073709551616 := fun j => by
    by_cases h : j < ns.length
    · rw [show ns.getD j 0 = ns[j] by simp [h]]; exact h64 _ (List.getElem_mem h)
    · rw [show ns.getD j 0 = 0 by simp [Nat.le_of_not_lt h]]; decide
  obtain ⟨n, hnn⟩ : ∃ n, n = ns.length := ⟨_, rfl⟩
  obtain ⟨q, hq⟩ : ∃ q, q = s.length := ⟨_, rfl⟩
  rw [← hnn] at hn0 nl ⊢
  rw [← hq] at hs0 sl ⊢
  have CC := Lib.hid C; have AL := Lib.hid hal; have HN := Lib.hid hn0; have HS := Lib.hid hs0; have NN := Lib.hid hnn; have HQ := Lib.hid hq; have X64 := Lib.hid hx64
  clear C hal hn0 hs0 hnn hq h64 hx64
  go_enter Try.func5, Try.ntmps5
  by_cases hf : 40 < n
  · have g1 : (n : Int) > 40 := by omega
    go_wp2_with fail
    refine (AL.out _).mono ?_
    rintro e w7 ⟨rfl, b7⟩
    have E7 := Lib.hid b7
    clear b7
    go_wp2_with fail
    go_ret
    exact ⟨rfl, E7.out⟩
  · have n40 : n ≤ 40 := by omega
    have g1 : ¬ (n : Int) > 40 := by omega
    go_wp2_with fail
    go_loopw [7, 21] (fun bk i wr => ∃ j : Nat, j ≤ n ∧ i = .int .i64 j ∧ BInv5 ns w j bk wr) (fun _ i _ => n - (intOf i).toNat)
    case atStart => exact ⟨0, by omega, rfl, ⟨⟨[], sl_none _, rfl, by simp⟩, Below.refl _ _⟩⟩
    case round =>
      obtain ⟨j, hj, rfl, hI⟩ := hrel
      obtain ⟨B, sB, hB, lB⟩ := hI.h
      have EB := Lib.hid hI.b; have SB := Lib.hid sB; have HB := Lib.hid hB
      clear hI sB hB
      by_cases hlt : j < n
      · have hlt' : (j : Int) < (n : Int) := by omega
        obtain ⟨b1, o1, ha1, cx⟩ := slK_at (i := j) (HN.out.below EB.out) (by rw [List.length_map, ← NN.out]; exact hlt)
        rw [getD_cast] at cx
        have hdr := packN_drop ns j j (by rw [← NN.out]; exact hlt)
        have x64 := X64.out j
        obtain ⟨x, hx⟩ : ∃ x, x = ns.getD j 0 := ⟨_, rfl⟩
        rw [← hx] at cx hdr x64
        obtain ⟨K, hK⟩ : ∃ K, K = j % 8 + 1 := ⟨_, rfl⟩
        have K1 : 1 ≤ K := by omega
        have K8 : K ≤ 8 := by omega
        rw [← hK] at hdr
        have hnum := CC.out.num B x (K : Int) _ wr SB.out (by omega) x64 (by omega) (by omega)
        rw [cutN_in K 1 8 K1 K8] at hnum
        have hmd : (j : Int) % 8 + 1 = (K : Int) := by omega
        subst ha1
        have NU := Lib.hid hnum; have DR := Lib.hid hdr; have MD := Lib.hid hmd
        clear hnum hdr hmd hx x64 hK
        go_wp2_with fail
        rw [MD.out]
        refine NU.out.mono ?_
        rintro e w2 ⟨v2, rfl, s2, b2⟩
        have E2 := Lib.hid (EB.out.trans (b2.mono EB.out.size)); have S2 := Lib.hid s2
        clear b2 s2 EB SB NU
        go_wp2_with fail
        go_roundw
        case rel =>
          refine ⟨j + 1, by omega, by go_num, ⟨⟨_, S2.out, ?_, ?_⟩, E2.out⟩⟩
          · rw [List.append_assoc, ← DR.out]; exact HB.out
          · rw [List.length_append, nbytes_length]; omega
        case measure => simp [intOf]; omega
      · have hjn : j = n := by omega
        have hge : ¬ (j : Int) < (n : Int) := by omega
        have hB := HB.out
        rw [hjn, NN.out, List.drop_length, packN, List.append_nil] at hB
        rw [hB] at SB lB
        clear HB hB B
        subst hjn
        obtain ⟨c, hc⟩ : ∃ c, c = packN ns 0 := ⟨_, rfl⟩
        rw [← hc] at SB lB
        have sB := SB.out
        obtain ⟨a9, cap9, rfl, _, _⟩ := sB
        have HC := Lib.hid hc
        clear hc
        have hbad := fun (h : p < 1 ∨ 255 < p ∨ p < q) => CC.out.textBad c s p _ _ wr SB.out (HS.out.below EB.out) (by omega) (by rw [← HQ.out]; omega) (by omega) (by rw [← HQ.out]; exact h)
        by_cases hb : p < 1 ∨ p < q
        · have TB := Lib.hid (hbad (by omega))
          clear hbad
          go_wp2_with fail
          refine TB.out.mono ?_
          rintro e w2 ⟨v2, rfl, s2, b2⟩
          have E2 := Lib.hid (EB.out.trans (b2.mono EB.out.size))
          obtain ⟨a2, cap2, rfl, _, _⟩ := s2
          rw [show ([] : List (BitVec 8)).length = 0 from rfl]
          clear b2 EB SB TB
          by_cases hp0 : p = 0
          · subst hp0
            go_wp2_with fail
            refine (AL.out _).mono ?_
            rintro e w7 ⟨rfl, b7⟩
            have E7 := Lib.hid (E2.out.trans (b7.mono E2.out.size))
            clear b7
            go_wp2_with fail
            go_ret
            exact ⟨rfl, E7.out⟩
          · have g2 : ¬ (p : Int) = 0 := by omega
            have g3 : (q : Int) > (p : Int) := by omega
            go_wp2_with fail
            refine (AL.out _).mono ?_
            rintro e w7 ⟨rfl, b7⟩
            have E7 := Lib.hid (E2.out.trans (b7.mono E2.out.size))
            clear b7
            go_wp2_with fail
            go_ret
            exact ⟨rfl, E7.out⟩
        · clear hbad
          have p1 : 1 ≤ p := by omega
          have qp : q ≤ p := by omega
          have TG := Lib.hid (CC.out.text c s p _ _ wr SB.out (HS.out.below EB.out) (by omega) p1 hp (by rw [← HQ.out]; exact qp))
          go_wp2_with fail
          refine TG.out.mono ?_
          rintro e w2 ⟨v2, rfl, s2, b2⟩
          have E2 := Lib.hid (EB.out.trans (b2.mono EB.out.size)); have S2 := Lib.hid s2
          have hlen : (c ++ textB s p).length = c.length + (p + 1) := by rw [List.length_append, textB_length s p (by rw [← HQ.out]; exact qp)]
          obtain ⟨a2, cap2, rfl, _, _⟩ := s2
          obtain ⟨M, hM⟩ : ∃ M, M = (c ++ textB s p).length := ⟨_, rfl⟩
          rw [← hM] at hlen S2 ⊢
          have hfi := CC.out.fill (c ++ textB s p) (M + p) _ w2 S2.out (by omega) (by omega)
          rw [show ((M + p : Nat) : Int) = (M : Int) + (p : Int) by omega] at hfi
          have FI := Lib.hid hfi; have HL := Lib.hid hlen; have HM := Lib.hid hM
          have m9 : M ≤ 1000 := by omega
          clear hfi b2 EB SB TG hlen hM
          go_wp2_with fail
          refine FI.out.mono ?_
          rintro e w3 ⟨v3, rfl, s3, b3⟩
          have hfb : fillB (c ++ textB s p) (M + p) = packN (ns.drop 0) 0 ++ (textB s p ++ List.replicate p 0) := by
            unfold fillB
            rw [← HM.out, Nat.add_sub_cancel_left, List.append_assoc, HC.out, List.drop_zero]
          rw [hfb] at s3
          obtain ⟨t, ht⟩ : ∃ t, t = textB s p ++ List.replicate p 0 := ⟨_, rfl⟩
          have tl : t.length ≤ 600 := by rw [ht, List.length_append, textB_length s p (by rw [← HQ.out]; exact qp), List.length_replicate]; omega
          rw [← ht] at s3
          have hlp : ∀ k, (packN (ns.drop k) k ++ t).length ≤ 8000 := fun k => by
            have := packN_len (ns.drop k) k
            rw [List.length_drop, ← NN.out] at this
            rw [List.length_append]; omega
          have E3 := Lib.hid (E2.out.trans (b3.mono E2.out.size)); have LP := Lib.hid hlp; have HT := Lib.hid ht
          have RE := Lib.hid (CC.out.read _ v3 w3 s3 (hlp 0))
          clear b3 s3 E2 S2 FI hfb hlp ht
          go_wp2_with fail
          refine RE.out.mono ?_
          rintro e w4 ⟨br, rfl, hbr, r4, b4⟩
          have BR := Lib.hid (Nat.le_trans E3.out.size hbr)
          have I4 := Lib.hid (⟨r4, E3.out.trans (b4.mono E3.out.size)⟩ : CInv5 R ns t br w 0 w4)
          clear hbr r4 b4 E3 RE
          go_wp2_with fail
          go_loopw [74] (fun i wr => ∃ k : Nat, k ≤ j ∧ i = .int .i64 k ∧ CInv5 R ns t br w k wr) (fun i _ => j - (intOf i).toNat)
          case atStart => exact ⟨0, by omega, rfl, I4.out⟩
          case round =>
            clear I4
            obtain ⟨k, hk, rfl, hI⟩ := hrel
            have EK := Lib.hid hI.b; have RK := Lib.hid hI.h
            clear hI
            by_cases hlt : k < j
            · have hlt' : (k : Int) < (j : Int) := by omega
              obtain ⟨b1, o1, ha1, cx⟩ := slK_at (i := k) (HN.out.below EK.out) (by rw [List.length_map, ← NN.out]; exact hlt)
              rw [getD_cast] at cx
              have hdr := packN_drop ns k k (by rw [← NN.out]; exact hlt)
              have x64 := X64.out k
              obtain ⟨x, hx⟩ : ∃ x, x = ns.getD k 0 := ⟨_, rfl⟩
              rw [← hx] at cx hdr x64
              obtain ⟨u, hu⟩ : ∃ u, u = packN (ns.drop (k + 1)) (k + 1) ++ t := ⟨_, rfl⟩
              have hb1 : packN (ns.drop k) k ++ t = nbytes x (k % 8 + 1) ++ u := by rw [hdr, hu, List.append_assoc]
              obtain ⟨r, hr⟩ : ∃ r, r = k % 8 := ⟨_, rfl⟩
              have hr8 : r < 8 := by omega
              rw [← hr] at hb1
              have hnu := CC.out.pnum (nbytes x (r + 1) ++ u) 0 ((r + 1 : Nat) : Int) 18446744073709551615 br wr (by rw [← hb1]; exact RK.out) (by rw [← hb1]; exact LP.out k) (by omega) (by omega) (by omega) (by omega)
              rw [cutN_in (r + 1) 1 8 (by omega) (by omega), rdNum_put x (r + 1) _ u (by
                have h1 : 256 ^ (r + 1) ≤ 256 ^ 8 := Nat.pow_le_pow_right (by decide) (by omega)
                have h2 : (256 ^ 8 : Nat) = 18446744073709551616 := by decide
                have h3 := Nat.mod_lt x (Nat.pow_pos (n := r + 1) (a := 256) (by decide))
                omega)] at hnu
              obtain ⟨y, hy⟩ : ∃ y, y = x % 256 ^ (r + 1) := ⟨_, rfl⟩
              rw [← hy] at hnu
              have NU := Lib.hid hnu; have HU := Lib.hid hu; have HY := Lib.hid hy; have X6 := Lib.hid x64
              subst ha1
              clear hnu hu hb1 hdr hx RK hy x64
              have hkr : (k : Int) % 8 = (r : Int) := by omega
              have h8 : r = 0 ∨ r = 1 ∨ r = 2 ∨ r = 3 ∨ r = 4 ∨ r = 5 ∨ r = 6 ∨ r = 7 := by omega
              clear hr hr8
              rcases h8 with rfl | rfl | rfl | rfl | rfl | rfl | rfl | rfl
              · rw [Int.natCast_zero] at hkr
                have hxy : (x : Int) % 256 = (y : Int) := by have h := HY.out; rw [show (256 : Nat) ^ (0 + 1) = 256 by decide] at h; omega
                have hnu : Calls Try.prog 18 #[rp br, .int .i64 1, .int .u64 18446744073709551615] wr fun o w' => o = .returned (.int .u64 (y : Int)) ∧ PEnd R wr br u 0 w' := NU.out
                have N2 := Lib.hid hnu; have XY := Lib.hid hxy
                clear hnu NU hxy
                go_wp2_with fail
                rw [XY.out]
                refine N2.out.mono ?_
                rintro e w5 ⟨rfl, p5⟩
                have E5 := Lib.hid (p5.k _ _ EK.out BR.out); have R5 := Lib.hid p5.r
                clear p5 EK N2
                go_wp2_with fail
                go_roundw
                case rel => exact ⟨k + 1, by omega, by go_num, ⟨by rw [← HU.out]; exact R5.out, E5.out⟩⟩
                case measure => simp [intOf]; omega
              · have hxy : (x : Int) % 65536 = (y : Int) := by have h := HY.out; rw [show (256 : Nat) ^ (1 + 1) = 65536 by decide] at h; omega
                have hnu : Calls Try.prog 18 #[rp br, .int .i64 2, .int .u64 18446744073709551615] wr fun o w' => o = .returned (.int .u64 (y : Int)) ∧ PEnd R wr br u 0 w' := NU.out
                have N2 := Lib.hid hnu; have XY := Lib.hid hxy
                clear hnu NU hxy
                go_wp2_with fail
                rw [XY.out]
                refine N2.out.mono ?_
                rintro e w5 ⟨rfl, p5⟩
                have E5 := Lib.hid (p5.k _ _ EK.out BR.out); have R5 := Lib.hid p5.r
                clear p5 EK N2
                go_wp2_with fail
                go_roundw
                case rel => exact ⟨k + 1, by omega, by go_num, ⟨by rw [← HU.out]; exact R5.out, E5.out⟩⟩
                case measure => simp [intOf]; omega
              · have hxy : (x : Int) % 16777216 = (y : Int) := by have h := HY.out; rw [show (256 : Nat) ^ (2 + 1) = 16777216 by decide] at h; omega
                have hnu : Calls Try.prog 18 #[rp br, .int .i64 3, .int .u64 18446744073709551615] wr fun o w' => o = .returned (.int .u64 (y : Int)) ∧ PEnd R wr br u 0 w' := NU.out
                have N2 := Lib.hid hnu; have XY := Lib.hid hxy
                clear hnu NU hxy
                go_wp2_with fail
                rw [XY.out]
                refine N2.out.mono ?_
                rintro e w5 ⟨rfl, p5⟩
                have E5 := Lib.hid (p5.k _ _ EK.out BR.out); have R5 := Lib.hid p5.r
                clear p5 EK N2
                go_wp2_with fail
                go_roundw
                case rel => exact ⟨k + 1, by omega, by go_num, ⟨by rw [← HU.out]; exact R5.out, E5.out⟩⟩
                case measure => simp [intOf]; omega
              · have hxy : (x : Int) % 4294967296 = (y : Int) := by have h := HY.out; rw [show (256 : Nat) ^ (3 + 1) = 4294967296 by decide] at h; omega
                have hnu : Calls Try.prog 18 #[rp br, .int .i64 4, .int .u64 18446744073709551615] wr fun o w' => o = .returned (.int .u64 (y : Int)) ∧ PEnd R wr br u 0 w' := NU.out
                have N2 := Lib.hid hnu; have XY := Lib.hid hxy
                clear hnu NU hxy
                go_wp2_with fail
                rw [XY.out]
                refine N2.out.mono ?_
                rintro e w5 ⟨rfl, p5⟩
                have E5 := Lib.hid (p5.k _ _ EK.out BR.out); have R5 := Lib.hid p5.r
                clear p5 EK N2
                go_wp2_with fail
                go_roundw
                case rel => exact ⟨k + 1, by omega, by go_num, ⟨by rw [← HU.out]; exact R5.out, E5.out⟩⟩
                case measure => simp [intOf]; omega
              · have hxy : (x : Int) % 1099511627776 = (y : Int) := by have h := HY.out; rw [show (256 : Nat) ^ (4 + 1) = 1099511627776 by decide] at h; omega
                have hnu : Calls Try.prog 18 #[rp br, .int .i64 5, .int .u64 18446744073709551615] wr fun o w' => o = .returned (.int .u64 (y : Int)) ∧ PEnd R wr br u 0 w' := NU.out
                have N2 := Lib.hid hnu; have XY := Lib.hid hxy
                clear hnu NU hxy
                go_wp2_with fail
                rw [XY.out]
                refine N2.out.mono ?_
                rintro e w5 ⟨rfl, p5⟩
                have E5 := Lib.hid (p5.k _ _ EK.out BR.out); have R5 := Lib.hid p5.r
                clear p5 EK N2
                go_wp2_with fail
                go_roundw
                case rel => exact ⟨k + 1, by omega, by go_num, ⟨by rw [← HU.out]; exact R5.out, E5.out⟩⟩
                case measure => simp [intOf]; omega
              · have hxy : (x : Int) % 281474976710656 = (y : Int) := by have h := HY.out; rw [show (256 : Nat) ^ (5 + 1) = 281474976710656 by decide] at h; omega
                have hnu : Calls Try.prog 18 #[rp br, .int .i64 6, .int .u64 18446744073709551615] wr fun o w' => o = .returned (.int .u64 (y : Int)) ∧ PEnd R wr br u 0 w' := NU.out
                have N2 := Lib.hid hnu; have XY := Lib.hid hxy
                clear hnu NU hxy
                go_wp2_with fail
                rw [XY.out]
                refine N2.out.mono ?_
                rintro e w5 ⟨rfl, p5⟩
                have E5 := Lib.hid (p5.k _ _ EK.out BR.out); have R5 := Lib.hid p5.r
                clear p5 EK N2
                go_wp2_with fail
                go_roundw
                case rel => exact ⟨k + 1, by omega, by go_num, ⟨by rw [← HU.out]; exact R5.out, E5.out⟩⟩
                case measure => simp [intOf]; omega
              · have hxy : (x : Int) % 72057594037927936 = (y : Int) := by have h := HY.out; rw [show (256 : Nat) ^ (6 + 1) = 72057594037927936 by decide] at h; omega
                have hnu : Calls Try.prog 18 #[rp br, .int .i64 7, .int .u64 18446744073709551615] wr fun o w' => o = .returned (.int .u64 (y : Int)) ∧ PEnd R wr br u 0 w' := NU.out
                have N2 := Lib.hid hnu; have XY := Lib.hid hxy
                clear hnu NU hxy
                go_wp2_with fail
                rw [XY.out]
                refine N2.out.mono ?_
                rintro e w5 ⟨rfl, p5⟩
                have E5 := Lib.hid (p5.k _ _ EK.out BR.out); have R5 := Lib.hid p5.r
                clear p5 EK N2
                go_wp2_with fail
                go_roundw
                case rel => exact ⟨k + 1, by omega, by go_num, ⟨by rw [← HU.out]; exact R5.out, E5.out⟩⟩
                case measure => simp [intOf]; omega
              · have hxy : (x : Int) = (y : Int) := by have h := HY.out; have h2 := X6.out; rw [show (256 : Nat) ^ (7 + 1) = 18446744073709551616 by decide] at h; omega
                have hnu : Calls Try.prog 18 #[rp br, .int .i64 8, .int .u64 18446744073709551615] wr fun o w' => o = .returned (.int .u64 (y : Int)) ∧ PEnd R wr br u 0 w' := NU.out
                have N2 := Lib.hid hnu; have XY := Lib.hid hxy
                clear hnu NU hxy
                go_wp2_with fail
                rw [XY.out]
                refine N2.out.mono ?_
                rintro e w5 ⟨rfl, p5⟩
                have E5 := Lib.hid (p5.k _ _ EK.out BR.out); have R5 := Lib.hid p5.r
                clear p5 EK N2
                go_wp2_with fail
                go_roundw
                case rel => exact ⟨k + 1, by omega, by go_num, ⟨by rw [← HU.out]; exact R5.out, E5.out⟩⟩
                case measure => simp [intOf]; omega
            · have hkj : k = j := by omega
              have hge : ¬ (k : Int) < (j : Int) := by omega
              have rK := RK.out
              rw [show packN (ns.drop k) k ++ t = textB s p ++ List.replicate p 0 by rw [hkj, NN.out, List.drop_length, packN, List.nil_append, HT.out]] at rK
              have hc : cutN (p : Int) 1 255 = p := cutN_in p 1 255 p1 hp
              have htx := CC.out.ptext _ 0 (p : Int) br wr rK (by rw [← HT.out]; omega) (by omega) (by omega) (by omega)
              rw [hc, rdText_put s _ p (by rw [← HQ.out]; exact qp) hp] at htx
              have hre := fun (wx : World) (h : R wx br (List.replicate p 0) 0) => CC.out.prest (List.replicate p 0) 0 br wx h (by rw [List.length_replicate]; omega) (by omega)
              rw [rdRest_zero] at hre
              have hle := fun (wx : World) (h : R wx br (List.replicate p 0) 0) => CC.out.pleft (List.replicate p 0) 0 br wx h (by rw [List.length_replicate]; omega) (by omega)
              rw [rdLeft_zero] at hle
              have hsa := fun (v : Value) (wx : World) (h1 : Sl wx v s) (h2 : Sl wx (.slice as0 q caps) s) => same_any s s v _ wx h1 h2 (by rw [← HQ.out]; omega) (by rw [← HQ.out]; omega)
              rw [sameB_self] at hsa
              have hre2 : ∀ wx, R wx br (List.replicate p 0) 0 → Calls Try.prog 24 #[rp br] wx fun o w' => o = .returned (.int .i64 0) ∧ PEnd R wx br (List.replicate p 0) 0 w' := hre
              have TX := Lib.hid htx; have RE2 := Lib.hid hre2; have LE := Lib.hid hle; have SA := Lib.hid hsa
              clear rK htx hre hre2 hle hsa hc hkj RK hlt hk
              go_wp2_with fail
              refine TX.out.mono ?_
              rintro e w5 ⟨v5, rfl, s5, p5⟩
              have E5 := Lib.hid (p5.k _ _ EK.out BR.out); have R5 := Lib.hid p5.r; have S5 := Lib.hid s5
              clear p5 s5 EK TX
              go_wp2_with fail
              refine (SA.out _ _ S5.out (HS.out.below E5.out)).mono ?_
              rintro e w6 ⟨rfl, b6⟩
              have E6 := Lib.hid (E5.out.trans (b6.mono E5.out.size)); have R6 := Lib.hid (CC.out.below R5.out b6)
              clear b6 E5 R5 S5 SA
              go_wp2_with fail
              refine (RE2.out _ R6.out).mono ?_
              rintro e w7 ⟨rfl, p7⟩
              have E7 := Lib.hid (p7.k _ _ E6.out BR.out); have R7 := Lib.hid p7.r
              clear p7 E6 R6 RE2
              go_wp2_with fail
              refine (LE.out _ R7.out).mono ?_
              rintro e w8 ⟨rfl, p8⟩
              have E8 := Lib.hid (p8.k _ _ E7.out BR.out)
              clear p8 E7 R7 LE
              go_wp2_with fail
              refine (AL.out _).mono ?_
              rintro e w9 ⟨rfl, b9⟩
              have E9 := Lib.hid (E8.out.trans (b9.mono E8.out.size))
              clear b9
              go_wp2_with fail
              go_ret
              exact ⟨rfl, E9.out⟩
end Sha
end Go.Proofs.Ytoefhcikfmgkbaa
