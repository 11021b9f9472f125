/- Package dev: Tamper, Restore, Waiting: walks. -/
import Derived.Test.YtkgpcgkikenljaaDevPFlush
import Derived.Test.YtkgpcgkikenljaaDevPNew
namespace Go.Proofs.Ytkgpcgkikenljaa
namespace Sha
open Go.RowKit Mem
set_option maxRecDepth 100000 in
set_option maxHeartbeats 1000000 in
theorem ptamper_good {F : Foot} {br : Nat} {s : St6} (n k : Nat) (x : List (BitVec 8)) (v : Value) (w : World) (hr : PSt F br w s) (hok : Ok6 1000 s) (hx : Sl w v x) (hn : n < s.n) (hk : k + x.length ≤ 256) :
    Calls Try.prog 24 #[rq br, .int .i64 (n : Int), .int .i64 (k : Int), v] w fun e w' => e = .returned (.int .i64 0) ∧ StEnd PSt F br w (stTamper s (n * 256 + k) x) w' := by
  obtain ⟨D, bb, vw, vs, vt, hv⟩ := hr
  have hck := pcheck_good br bb s.n n vw vs vt w hv.row hok.n2 hn
  have hbk := pblk_any br bb s.n n vw vs vt w hv.row hok.n2 hn
  have hn2 := hok.n2
  have hx0 := hx
  have hb := hok.b
  have hlt := laidL_length s.b (n * 256 + k) x (by omega)
  obtain ⟨ax, capx, rfl, _, _⟩ := hx
  obtain ⟨N, hN⟩ : ∃ N, N = s.n := ⟨_, rfl⟩
  obtain ⟨L, hL⟩ : ∃ L, L = x.length := ⟨_, rfl⟩
  rw [← hN] at hn hbk hb hn2
  rw [← hL] at hx0 hk ⊢
  obtain ⟨cp, hcp⟩ : ∃ cp, cp = N * 256 - n * 256 := ⟨_, rfl⟩
  rw [← hcp] at hbk
  obtain ⟨p', hp', hpe, hpl⟩ : ∃ p', pieceA (some ⟨bb, n * 256, none⟩) cp k = some ⟨bb, p', none⟩ ∧ (k < cp → p' = n * 256 + k) ∧ p' ≤ n * 256 + k := by
    unfold pieceA
    split
    · exact ⟨n * 256, rfl, fun h => by omega, by omega⟩
    · exact ⟨n * 256 + k, by simp [Addr.add_mid], fun _ => rfl, by omega⟩
  have g1 : ¬ (256 - (k : Int)) < (L : Int) := by omega
  have h256 : 256 ≤ cp := by omega
  have HV := Lib.hid hv; have CK := Lib.hid hck; have BK := Lib.hid hbk; have SX := Lib.hid hx0; have HL := Lib.hid hL; have HB := Lib.hid hb; have HN := Lib.hid hN; have PP := Lib.hid hp'; have PE := Lib.hid hpe; have LL := Lib.hid hlt
  clear hv hck hbk hx0 hL hb hN hp' hpe hok hcp hlt
  go_enter Try.func24, Try.ntmps24
  go_wp2_with fail
  refine CK.out.mono ?_
  rintro o w' ⟨rfl, rfl⟩
  go_wp2_with fail
  refine BK.out.mono ?_
  rintro o w' ⟨rfl, rfl⟩
  go_wp2_with (first
    | (refine wpList_from (by rfl) 27 _ _ (by rfl) Try.underlying27 (some ⟨bb, n * 256, none⟩) 256 cp k (by rfl) (by rfl) (by omega) (by omega) ?_; rw [PP.out])
    | (refine wpList_copy_laid (by rfl) _ _ (by rfl) bb (n * 256 + k) p' (256 - k) (cp - k) (.slice ax L capx) x s.b (by rfl) (by rfl) SX.out (by rw [← HL.out]; omega) HV.out.m.by8 (by rw [← HL.out, HB.out]; omega) (fun hne => PE.out (by have h := HL.out; have : 0 < x.length := List.length_pos_iff.2 hne; omega)) ?_; intro w9 ha hs9 ho hk9; have I9 : Hid (FInv F D br bb w s vw vs vt (laidL s.b (n * 256 + k) x) w9) := FInv.set (b := s.b) ⟨HV.out, Chg.refl _ _⟩ (by rw [LL.out, HB.out, HN.out]) ha (by omega) ho hk9; clear ha hs9 ho hk9))
  go_ret
  exact ⟨rfl, ⟨F, I9.out.v.ps, fun k hk => .inl hk⟩, I9.out.c⟩
set_option maxRecDepth 100000 in
set_option maxHeartbeats 1000000 in
theorem ptamper_bad {F : Foot} {br : Nat} {s : St6} (n k : Int) (x : List (BitVec 8)) (v : Value) (w : World) (hr : PSt F br w s) (hok : Ok6 1000 s) (hx : Sl w v x) (hxl : x.length ≤ 1000000) (hk0 : -9223372036854775808 ≤ k) (hk1 : k ≤ 9223372036854775807) (hbad : n < 0 ∨ (s.n : Int) ≤ n ∨ k < 0 ∨ 256 < k ∨ 256 - k < x.length) :
    Calls Try.prog 24 #[rq br, .int .i64 n, .int .i64 k, v] w fun e w' => e = .returned (.int .i64 1) ∧ StEnd PSt F br w s w' := by
  have hend := ps_same hr (Below.refl w.heap.size w)
  have HE := Lib.hid hend
  clear hend
  obtain ⟨D, bb, vw, vs, vt, hv⟩ := hr
  obtain ⟨ax, capx, rfl, _, _⟩ := hx
  obtain ⟨L, hL⟩ : ∃ L, L = x.length := ⟨_, rfl⟩
  rw [← hL] at hxl hbad ⊢
  by_cases h1 : n < 0 ∨ (s.n : Int) ≤ n
  · have hck := pcheck_bad br bb s.n n vw vs vt w hv.row hok.n2 hok.n1 h1
    have CK := Lib.hid hck
    clear hck hbad h1 hok hv hL
    go_enter Try.func24, Try.ntmps24
    go_wp2_with fail
    refine CK.out.mono ?_
    rintro o w' ⟨rfl, rfl⟩
    go_wp2_with fail
    go_ret
    exact ⟨rfl, HE.out⟩
  · obtain ⟨q, rfl⟩ : ∃ q : Nat, n = (q : Int) := ⟨n.toNat, by omega⟩
    have hck := pcheck_good br bb s.n q vw vs vt w hv.row hok.n2 (by omega)
    have CK := Lib.hid hck
    have hb2 : k < 0 ∨ 256 - k < (L : Int) := by omega
    clear hck hbad h1 hok hv hL
    by_cases h2 : k < 0
    · clear hb2
      go_enter Try.func24, Try.ntmps24
      go_wp2_with fail
      refine CK.out.mono ?_
      rintro o w' ⟨rfl, rfl⟩
      go_wp2_with fail
      go_ret
      exact ⟨rfl, HE.out⟩
    · have h3 : 256 - k < (L : Int) := by omega
      clear hb2
      go_enter Try.func24, Try.ntmps24
      go_wp2_with fail
      refine CK.out.mono ?_
      rintro o w' ⟨rfl, rfl⟩
      go_wp2_with fail
      go_ret
      exact ⟨rfl, HE.out⟩
set_option maxRecDepth 100000 in
set_option maxHeartbeats 1000000 in
theorem prestore_bad {F : Foot} {br : Nat} {s : St6} (k : Int) (w : World) (hr : PSt F br w s) (hok : Ok6 1000 s) (hbad : k < 0 ∨ (s.sh.length : Int) ≤ k) :
    Calls Try.prog 25 #[rq br, .int .i64 k] w fun e w' => e = .returned (.int .i64 6) ∧ StEnd PSt F br w s w' := by
  have hend := ps_same hr (Below.refl w.heap.size w)
  have HE := Lib.hid hend
  clear hend
  obtain ⟨D, bb, vw, vs, vt, hv⟩ := hr
  obtain ⟨asx, caps, rfl⟩ := hv.s_hd
  have hmd := pmade_any br bb s.n vw _ vt w hv.row hok.n2 hok.n1
  have hs16 := hok.s16
  have hrow := hv.row
  obtain ⟨L, hL⟩ : ∃ L, L = s.sh.length := ⟨_, rfl⟩
  rw [← hL] at hrow hbad hs16
  have c2 : w.cell? ⟨br, 2, none⟩ = some (.slice asx L caps) := by rw [hrow.cell]; rfl
  have MD := Lib.hid hmd
  clear hmd hv hrow hL hok
  by_cases h1 : k < 0
  · clear hbad
    go_enter Try.func25, Try.ntmps25
    go_wp2_with fail
    refine MD.out.mono ?_
    rintro o w' ⟨rfl, rfl⟩
    go_wp2_with fail
    go_ret
    exact ⟨rfl, HE.out⟩
  · have h2 : (L : Int) ≤ k := by omega
    clear hbad
    go_enter Try.func25, Try.ntmps25
    go_wp2_with fail
    refine MD.out.mono ?_
    rintro o w' ⟨rfl, rfl⟩
    go_wp2_with fail
    go_ret
    exact ⟨rfl, HE.out⟩
theorem laid_whole (b x : List (BitVec 8)) (h : x.length = b.length) : laidL b 0 x = x := by simp [laidL, h]
set_option maxRecDepth 100000 in
set_option maxHeartbeats 2000000 in
theorem prestore_good {F : Foot} {br : Nat} {s : St6} (k : Nat) (w : World) (hr : PSt F br w s) (hok : Ok6 1000 s) (hk : k < s.sh.length) :
    Calls Try.prog 25 #[rq br, .int .i64 (k : Int)] w fun e w' => e = .returned (.int .i64 0) ∧ StEnd PSt F br w (stRestore s k) w' := by
  obtain ⟨D, bb, vw, vs, vt, hv⟩ := hr
  obtain ⟨asx, caps, rfl⟩ := hv.s_hd
  have hmd := pmade_any br bb s.n vw _ vt w hv.row hok.n2 hok.n1
  have hs16 := hok.s16
  have hn1 := hok.n1
  have hn2 := hok.n2
  have hb := hok.b
  have hxl := hok.sh k hk
  obtain ⟨b1, o1, vh, e1, ch0, hsh⟩ := psh_at hv.m hk
  have hst : stRestore s k = { s with b := s.sh.getD k [], w := [] } := rfl
  obtain ⟨x, hx⟩ : ∃ x, x = s.sh.getD k [] := ⟨_, rfl⟩
  rw [← hx] at hsh hxl hst
  obtain ⟨ah, caph, rfl⟩ := hsh.hd
  subst e1
  obtain ⟨N, hN⟩ : ∃ N, N = s.n := ⟨_, rfl⟩
  obtain ⟨L, hL⟩ : ∃ L, L = N * 256 := ⟨_, rfl⟩
  obtain ⟨M, hM⟩ : ∃ M, M = s.sh.length := ⟨_, rfl⟩
  have hxn := hxl
  rw [← hN, ← hL] at hxl hb
  have hsx := hsh.sl
  have hrow := hv.row
  rw [hxl] at ch0 hsx
  rw [← hM] at hrow hk hv hs16
  rw [← hN] at hrow hn1 hn2
  have ch : w.cell? ⟨b1, o1 + k, none⟩ = some (.slice ah L caph) := ch0
  clear ch0
  have row0 : (pRow bb N vw (.slice (some ⟨b1, o1, none⟩) M caps) vt)[0]? = some (.slice (some ⟨bb, 0, none⟩) L L) := by rw [hL]; rfl
  have c2 : w.cell? ⟨br, 2, none⟩ = some (.slice (some ⟨b1, o1, none⟩) M caps) := by rw [hrow.cell]; rfl
  have g1 : ¬ (M : Int) ≤ (k : Int) := by omega
  have s0 : At w.drew br (pRow bb N vw (.slice (some ⟨b1, o1, none⟩) M caps) vt) 62 ∧ w.drew.cell? ⟨b1, o1 + k, none⟩ = some (.slice ah L caph) := ⟨hrow.drew, ch⟩
  have hne1 : br ≠ bb := fun e => hv.m.ne e.symm
  have hne2 : b1 ≠ bb := by
    obtain ⟨_, _, h4⟩ := hv.m.hs
    exact fun e => own_ne_at h4 hv.m.by8 (by decide) (by rw [e]; rfl)
  have hks : ∀ w9 : World, (∀ k, k ≠ bb → w9.heap[k]? = w.drew.heap[k]?) → At w9 br (pRow bb N vw (.slice (some ⟨b1, o1, none⟩) M caps) vt) 62 ∧ w9.cell? ⟨b1, o1 + k, none⟩ = some (.slice ah L caph) := fun w9 ho =>
    ⟨by have h := hrow.drew; unfold At at *; rw [ho br hne1]; exact h, by rw [World.cell?_of_block (w := w.drew) (w' := w9) (a := ⟨b1, o1 + k, none⟩) (ho b1 hne2)]; exact ch⟩
  have hlx := laid_whole s.b x (by rw [hxl, hb])
  have hv2 := hv.below (Below.refl _ _).drew
  have hsx2 := hsx.below (Below.refl _ _).drew
  have S0 := Lib.hid s0; have MD := Lib.hid hmd; have ROW0 := Lib.hid row0; have SX := Lib.hid hsx2; have XL := Lib.hid hxl; have HV := Lib.hid hv2; have BL := Lib.hid hb; have XN := Lib.hid hxn; have LX := Lib.hid hlx; have KS := Lib.hid hks; have ST := Lib.hid hst; have HN := Lib.hid hN
  have hLp : 0 < L := by omega
  clear s0 hmd row0 hsx hsx2 hxl hv hv2 hb hxn hlx hks hst hN hL hM hx hsh hrow hok hne1 hne2
  go_enter Try.func25, Try.ntmps25
  go_wp2_with fail
  refine MD.out.mono ?_
  rintro o w' ⟨rfl, rfl⟩
  go_wp2_with fail
  refine wp_region_plan_in (fun w' => At w' br (pRow bb N vw (.slice (some ⟨b1, o1, none⟩) M caps) vt) 62 ∧ w'.cell? ⟨b1, o1 + k, none⟩ = some (.slice ah L caph)) (.take 0 (.take 1 (.take 2 (.take 3 (.take 4 (.take 5 (.take 6 (.take 7 (.take 8 (.take 9 (.take 10 (.sole 11 .done)))))))))))) (by kernel_rfl) (by kernel_rfl) (by kernel_rfl) S0.out ?_
  (first | (refine plan_move _ _ (by rfl) (by rfl) (.inl (by rfl)) (by first | (with_reducible exact Mem.ev_const _ _) | (with_reducible exact Mem.ev_zero _ _ _) | (with_reducible (apply Eq.trans (Mem.ev_tmp _ _ _)); simp only [List.getD_cons_succ, List.getD_cons_zero] <;> rfl)) ?_) | (refine plan_move _ _ (by rfl) (by rfl) (.inr (by rfl)) (by first | (with_reducible exact Mem.ev_const _ _) | (with_reducible exact Mem.ev_zero _ _ _) | (with_reducible (apply Eq.trans (Mem.ev_tmp _ _ _)); simp only [List.getD_cons_succ, List.getD_cons_zero] <;> rfl)) ?_) | (refine plan_pick_t _ _ _ _ (by rfl) (by rfl) (by rfl) (by first | (with_reducible exact Mem.ev_const _ _) | (with_reducible exact Mem.ev_zero _ _ _) | (with_reducible (apply Eq.trans (Mem.ev_tmp _ _ _)); simp only [List.getD_cons_succ, List.getD_cons_zero] <;> rfl)) (by first | (with_reducible exact Mem.ev_const _ _) | (with_reducible exact Mem.ev_zero _ _ _) | (with_reducible (apply Eq.trans (Mem.ev_tmp _ _ _)); simp only [List.getD_cons_succ, List.getD_cons_zero] <;> rfl)) ?_) | (refine plan_pick_f _ _ _ _ (by rfl) (by rfl) (by rfl) (by first | (with_reducible exact Mem.ev_const _ _) | (with_reducible exact Mem.ev_zero _ _ _) | (with_reducible (apply Eq.trans (Mem.ev_tmp _ _ _)); simp only [List.getD_cons_succ, List.getD_cons_zero] <;> rfl)) (by first | (with_reducible exact Mem.ev_const _ _) | (with_reducible exact Mem.ev_zero _ _ _) | (with_reducible (apply Eq.trans (Mem.ev_tmp _ _ _)); simp only [List.getD_cons_succ, List.getD_cons_zero] <;> rfl)) ?_))
  (simp only [Act.put, List.setIfInBounds_toArray, List.set_cons_zero, List.set_cons_succ])
  refine plan_nilcheck _ ⟨br, 0, none⟩ (by rfl) (by rfl) (by rfl) (by first | (with_reducible exact Mem.ev_const _ _) | (with_reducible exact Mem.ev_zero _ _ _) | (with_reducible (apply Eq.trans (Mem.ev_tmp _ _ _)); simp only [List.getD_cons_succ, List.getD_cons_zero] <;> rfl)) ?_
  (simp only [Act.put, List.setIfInBounds_toArray, List.set_cons_zero, List.set_cons_succ])
  refine plan_field 62 _ 0 br 0 ⟨br, 0, none⟩ (by rfl) (by rfl) (by rfl) (by first | (with_reducible exact Mem.ev_const _ _) | (with_reducible exact Mem.ev_zero _ _ _) | (with_reducible (apply Eq.trans (Mem.ev_tmp _ _ _)); simp only [List.getD_cons_succ, List.getD_cons_zero] <;> rfl)) (fun wx => by go_simp) ?_
  (simp only [Act.put, List.setIfInBounds_toArray, List.set_cons_zero, List.set_cons_succ])
  refine plan_cell 27 _ _ (.slice (some ⟨bb, 0, none⟩) L L) _ (by rfl) (by rfl) (by rfl) (by first | (with_reducible exact Mem.ev_const _ _) | (with_reducible exact Mem.ev_zero _ _ _) | (with_reducible (apply Eq.trans (Mem.ev_tmp _ _ _)); simp only [List.getD_cons_succ, List.getD_cons_zero] <;> rfl)) (fun w' hw' => (by rw [hw'.1.cell]; exact ROW0.out)) Try.underlying27 (by rfl) ?_
  (simp only [Act.put, List.setIfInBounds_toArray, List.set_cons_zero, List.set_cons_succ])
  (first | (refine plan_move _ _ (by rfl) (by rfl) (.inl (by rfl)) (by first | (with_reducible exact Mem.ev_const _ _) | (with_reducible exact Mem.ev_zero _ _ _) | (with_reducible (apply Eq.trans (Mem.ev_tmp _ _ _)); simp only [List.getD_cons_succ, List.getD_cons_zero] <;> rfl)) ?_) | (refine plan_move _ _ (by rfl) (by rfl) (.inr (by rfl)) (by first | (with_reducible exact Mem.ev_const _ _) | (with_reducible exact Mem.ev_zero _ _ _) | (with_reducible (apply Eq.trans (Mem.ev_tmp _ _ _)); simp only [List.getD_cons_succ, List.getD_cons_zero] <;> rfl)) ?_) | (refine plan_pick_t _ _ _ _ (by rfl) (by rfl) (by rfl) (by first | (with_reducible exact Mem.ev_const _ _) | (with_reducible exact Mem.ev_zero _ _ _) | (with_reducible (apply Eq.trans (Mem.ev_tmp _ _ _)); simp only [List.getD_cons_succ, List.getD_cons_zero] <;> rfl)) (by first | (with_reducible exact Mem.ev_const _ _) | (with_reducible exact Mem.ev_zero _ _ _) | (with_reducible (apply Eq.trans (Mem.ev_tmp _ _ _)); simp only [List.getD_cons_succ, List.getD_cons_zero] <;> rfl)) ?_) | (refine plan_pick_f _ _ _ _ (by rfl) (by rfl) (by rfl) (by first | (with_reducible exact Mem.ev_const _ _) | (with_reducible exact Mem.ev_zero _ _ _) | (with_reducible (apply Eq.trans (Mem.ev_tmp _ _ _)); simp only [List.getD_cons_succ, List.getD_cons_zero] <;> rfl)) (by first | (with_reducible exact Mem.ev_const _ _) | (with_reducible exact Mem.ev_zero _ _ _) | (with_reducible (apply Eq.trans (Mem.ev_tmp _ _ _)); simp only [List.getD_cons_succ, List.getD_cons_zero] <;> rfl)) ?_))
  (simp only [Act.put, List.setIfInBounds_toArray, List.set_cons_zero, List.set_cons_succ])
  refine plan_nilcheck _ ⟨br, 0, none⟩ (by rfl) (by rfl) (by rfl) (by first | (with_reducible exact Mem.ev_const _ _) | (with_reducible exact Mem.ev_zero _ _ _) | (with_reducible (apply Eq.trans (Mem.ev_tmp _ _ _)); simp only [List.getD_cons_succ, List.getD_cons_zero] <;> rfl)) ?_
  (simp only [Act.put, List.setIfInBounds_toArray, List.set_cons_zero, List.set_cons_succ])
  refine plan_field 62 _ 2 br 0 ⟨br, 2, none⟩ (by rfl) (by rfl) (by rfl) (by first | (with_reducible exact Mem.ev_const _ _) | (with_reducible exact Mem.ev_zero _ _ _) | (with_reducible (apply Eq.trans (Mem.ev_tmp _ _ _)); simp only [List.getD_cons_succ, List.getD_cons_zero] <;> rfl)) (fun wx => by go_simp) ?_
  (simp only [Act.put, List.setIfInBounds_toArray, List.set_cons_zero, List.set_cons_succ])
  refine plan_cell 29 _ _ (.slice (some ⟨b1, o1, none⟩) M caps) _ (by rfl) (by rfl) (by rfl) (by first | (with_reducible exact Mem.ev_const _ _) | (with_reducible exact Mem.ev_zero _ _ _) | (with_reducible (apply Eq.trans (Mem.ev_tmp _ _ _)); simp only [List.getD_cons_succ, List.getD_cons_zero] <;> rfl)) (fun w' hw' => (by rw [hw'.1.cell]; rfl)) Try.underlying29 (by rfl) ?_
  (simp only [Act.put, List.setIfInBounds_toArray, List.set_cons_zero, List.set_cons_succ])
  (first | (refine plan_move _ _ (by rfl) (by rfl) (.inl (by rfl)) (by first | (with_reducible exact Mem.ev_const _ _) | (with_reducible exact Mem.ev_zero _ _ _) | (with_reducible (apply Eq.trans (Mem.ev_tmp _ _ _)); simp only [List.getD_cons_succ, List.getD_cons_zero] <;> rfl)) ?_) | (refine plan_move _ _ (by rfl) (by rfl) (.inr (by rfl)) (by first | (with_reducible exact Mem.ev_const _ _) | (with_reducible exact Mem.ev_zero _ _ _) | (with_reducible (apply Eq.trans (Mem.ev_tmp _ _ _)); simp only [List.getD_cons_succ, List.getD_cons_zero] <;> rfl)) ?_) | (refine plan_pick_t _ _ _ _ (by rfl) (by rfl) (by rfl) (by first | (with_reducible exact Mem.ev_const _ _) | (with_reducible exact Mem.ev_zero _ _ _) | (with_reducible (apply Eq.trans (Mem.ev_tmp _ _ _)); simp only [List.getD_cons_succ, List.getD_cons_zero] <;> rfl)) (by first | (with_reducible exact Mem.ev_const _ _) | (with_reducible exact Mem.ev_zero _ _ _) | (with_reducible (apply Eq.trans (Mem.ev_tmp _ _ _)); simp only [List.getD_cons_succ, List.getD_cons_zero] <;> rfl)) ?_) | (refine plan_pick_f _ _ _ _ (by rfl) (by rfl) (by rfl) (by first | (with_reducible exact Mem.ev_const _ _) | (with_reducible exact Mem.ev_zero _ _ _) | (with_reducible (apply Eq.trans (Mem.ev_tmp _ _ _)); simp only [List.getD_cons_succ, List.getD_cons_zero] <;> rfl)) (by first | (with_reducible exact Mem.ev_const _ _) | (with_reducible exact Mem.ev_zero _ _ _) | (with_reducible (apply Eq.trans (Mem.ev_tmp _ _ _)); simp only [List.getD_cons_succ, List.getD_cons_zero] <;> rfl)) ?_))
  (simp only [Act.put, List.setIfInBounds_toArray, List.set_cons_zero, List.set_cons_succ])
  refine plan_index 29 27 _ _ b1 o1 M caps k (by rfl) (by rfl) (by rfl) (by first | (with_reducible exact Mem.ev_const _ _) | (with_reducible exact Mem.ev_zero _ _ _) | (with_reducible (apply Eq.trans (Mem.ev_tmp _ _ _)); simp only [List.getD_cons_succ, List.getD_cons_zero] <;> rfl)) (by first | (with_reducible exact Mem.ev_const _ _) | (with_reducible exact Mem.ev_zero _ _ _) | (with_reducible (apply Eq.trans (Mem.ev_tmp _ _ _)); simp only [List.getD_cons_succ, List.getD_cons_zero] <;> rfl)) (by omega) Try.underlying29 (by kernel_rfl) ?_
  (simp only [Act.put, List.setIfInBounds_toArray, List.set_cons_zero, List.set_cons_succ])
  refine plan_cell 27 _ _ (.slice ah L caph) _ (by rfl) (by rfl) (by rfl) (by first | (with_reducible exact Mem.ev_const _ _) | (with_reducible exact Mem.ev_zero _ _ _) | (with_reducible (apply Eq.trans (Mem.ev_tmp _ _ _)); simp only [List.getD_cons_succ, List.getD_cons_zero] <;> rfl)) (fun w' hw' => hw'.2) Try.underlying27 (by rfl) ?_
  (simp only [Act.put, List.setIfInBounds_toArray, List.set_cons_zero, List.set_cons_succ])
  refine plan_copy_sl _ _ (by rfl) (by rfl) (by rfl) bb 0 L L (.slice ah L caph) x s.b (by first | (with_reducible exact Mem.ev_const _ _) | (with_reducible exact Mem.ev_zero _ _ _) | (with_reducible (apply Eq.trans (Mem.ev_tmp _ _ _)); simp only [List.getD_cons_succ, List.getD_cons_zero] <;> rfl)) (by first | (with_reducible exact Mem.ev_const _ _) | (with_reducible exact Mem.ev_zero _ _ _) | (with_reducible (apply Eq.trans (Mem.ev_tmp _ _ _)); simp only [List.getD_cons_succ, List.getD_cons_zero] <;> rfl)) SX.out (by intro e; have h := XL.out; rw [e] at h; simp at h; omega) (by rw [XL.out]; omega) HV.out.m.by8 (by rw [XL.out, BL.out]; omega) ?_
  intro w9 ha hs9 ho hk
  have I9 : Hid (FInv F D br bb w s vw (.slice (some ⟨b1, o1, none⟩) M caps) vt x w9) := FInv.set (b := s.b) ⟨HV.out, (Chg.refl _ w).drew⟩ XN.out (by rw [← LX.out]; exact ha) (by omega) ho hk
  refine ⟨KS.out w9 ho, ?_⟩
  clear ha hs9 ho hk
  (simp only [Act.put, List.setIfInBounds_toArray, List.set_cons_zero, List.set_cons_succ])
  refine plan_nil ?_
  have R9 : Hid (At w9 br (pRow bb N vw (.slice (some ⟨b1, o1, none⟩) M caps) vt) 62) := by have h := I9.out.v.row; rw [HN.out]; exact h
  go_wp2_with (refine Mem.wpList_store_one (by rfl) 60 _ _ (by rfl) (by rfl) br 1 (.slice none 0 0) (by rfl) (by rfl) (by rfl) infoWs _ 62 R9.out (by simp [pRow]) ?_; intro w8 ha ho hk; have R8 := Lib.hid (pv_nowait (N := N) I9.out.v HN.out (by exact ha) ho hk); clear ha ho hk)
  go_ret
  rw [ST.out]
  exact ⟨rfl, StEnd.trans I9.out.c (fun k hk => .inl hk) (pv_end R8.out.1 R8.out.2)⟩
structure WtInv (l : List (Nat × List (BitVec 8))) (w : World) (j : Nat) (v : Value) (wr : World) : Prop where
  own : wr.ownsRow w.heap.size 3 1 v j (i64s ((l.take j).map fun p => (p.1 : Int)))
  b : Below w.heap.size w wr
theorem take_map_snoc (l : List (Nat × List (BitVec 8))) (j : Nat) (h : j < l.length) : ((l.take (j + 1)).map fun p => (p.1 : Int)) = ((l.take j).map fun p => (p.1 : Int)) ++ [((l.getD j (0, [])).1 : Int)] := by
  rw [List.take_add_one, List.map_append]
  simp [List.getD_eq_getElem?_getD, h]
set_option maxRecDepth 100000 in
set_option maxHeartbeats 4000000 in
theorem pwaiting_any {F : Foot} {br : Nat} {s : St6} (w : World) (hr : PSt F br w s) (hok : Ok6 1000 s) :
    Calls Try.prog 17 #[rq br] w fun e w' => ∃ v, e = .returned v ∧ SlR (fun _ => True) w' 1 v s.w.length (i64s (s.w.map fun p => (p.1 : Int))) ∧ Below w.heap.size w w' := by
  obtain ⟨D, bb, vw, vs, vt, hv⟩ := hr
  obtain ⟨aw, capw, rfl⟩ := hv.w_hd
  have hmd := pmade_any br bb s.n (.slice aw s.w.length capw) vs vt w hv.row hok.n2 hok.n1
  have hm1 := hok.w
  have hpw := fun j (h : j < s.w.length) => pw_at hv.m h
  have hsn := fun j (h : j < s.w.length) => take_map_snoc s.w j h
  have hta : s.w.take s.w.length = s.w := List.take_length
  have hsz : ∀ {b o : Nat} {u : Value}, w.cell? ⟨b, o, none⟩ = some u → b < w.heap.size := fun h => block_lt_of_cell h
  obtain ⟨M, hM⟩ : ∃ M, M = s.w.length := ⟨_, rfl⟩
  have hrow := hv.row
  rw [← hM] at hrow hm1 hpw hsn hta ⊢
  have c1 : w.cell? ⟨br, 1, none⟩ = some (.slice aw M capw) := by rw [hrow.cell]; rfl
  have MD := Lib.hid hmd; have PWA := Lib.hid hpw; have SN := Lib.hid hsn; have TA := Lib.hid hta
  clear hv hrow hM hmd hok hpw hsn hta hsz
  go_enter Try.func17, Try.ntmps17
  go_wp2_with fail
  refine MD.out.mono ?_
  rintro o w' ⟨rfl, rfl⟩
  go_wp2_with fail
  go_loopw [3, 14] (fun v i wr => ∃ j : Nat, j ≤ M ∧ i = .int .i64 j ∧ WtInv s.w w j v wr) (fun _ i _ => M - (intOf i).toNat)
  case atStart => exact ⟨0, by omega, rfl, ⟨ownsRow_nil0 _ _ _ _, Below.refl _ _⟩⟩
  case round =>
    clear c1
    obtain ⟨j, hj, rfl, hI⟩ := hrel
    by_cases hlt : j < M
    · have hlt' : (j : Int) < (M : Int) := by omega
      obtain ⟨b1, o1, vh, e1, cn0, ch0, hsh⟩ := PWA.out j hlt
      have hsn := SN.out j hlt
      obtain ⟨a3, cap3, rfl⟩ := hsh.hd
      obtain ⟨q, hq⟩ : ∃ q, q = (s.w.getD j (0, [])).1 := ⟨_, rfl⟩
      obtain ⟨Lx, hLx⟩ : ∃ Lx, Lx = (s.w.getD j (0, [])).2.length := ⟨_, rfl⟩
      rw [← hq] at cn0 hsn
      rw [← hLx] at ch0
      have cn : wr.cell? ⟨b1, o1 + j * 2, none⟩ = some (.int .i64 (q : Int)) := by rw [hI.b.cell (p := ⟨b1, o1 + j * 2, none⟩) (block_lt_of_cell cn0)]; exact cn0
      have ch : wr.cell? ⟨b1, o1 + j * 2 + 1, none⟩ = some (.slice a3 Lx cap3) := by rw [hI.b.cell (p := ⟨b1, o1 + j * 2 + 1, none⟩) (block_lt_of_cell ch0)]; exact ch0
      obtain ⟨av, cv, rfl⟩ := rows_hd hI.own
      have b3 : Below wr.heap.size wr (wr.alloc (.cells (wRow q (.slice a3 Lx cap3)) 80)) := (Below.refl _ _).alloc (Nat.le_refl _) _
      have b4 : Below w.heap.size w ((wr.alloc (.cells (wRow q (.slice a3 Lx cap3)) 80)).alloc (.cells #[.int .i64 (q : Int)] 3)) := (hI.b.trans (b3.mono hI.b.size)).alloc (by have h := hI.b.size; simp; omega) _
      have a31 : (wr.alloc (.cells (wRow q (.slice a3 Lx cap3)) 80)).cell? ⟨wr.heap.size, 0, none⟩ = some (.int .i64 (q : Int)) := by rw [(at_new wr _ _).cell]; rfl
      have O3 := Lib.hid (ownsRow_below (ownsRow_below hI.own b3) ((Below.refl _ _).alloc (Nat.le_refl _) (.cells #[.int .i64 (q : Int)] 3)))
      have B4 := Lib.hid b4; have SNJ := Lib.hid hsn
      subst e1
      have hone := i64s_one ((s.w.take j).map fun p => (p.1 : Int))
      clear hI b3 b4 hsn hsh cn0 ch0 hq hLx hone
      go_wp2_with (first
        | (refine wpList_store_new (by rfl) 80 _ _ (by rfl) (by rfl) (wRow q (.slice a3 Lx cap3)) _ _ (by rfl) (by rfl) (by exact infoW2) (by rfl) (wRow_one _ _ _ _) ?_; clear cn ch; generalize wr.alloc (.cells (wRow q (.slice a3 Lx cap3)) 80) = w3 at *; generalize wr.heap.size = bx at *)
        | (at_builtin; refine wpList_append_rows (by rfl) _ _ 30 (by rfl) (.slice (some ⟨w3.heap.size, 0, none⟩) 1 1) j 1 1 [.int .i64 (q : Int)] (.int .i64 0) 8 elemRI (by rfl) (by decide) (by rfl) O3.out (by rfl) (by exact rdR_new (e := 3) (C := #[.int .i64 (q : Int)])) (by simp [Value.oneCell']) (by omega) (by omega) B4.out.size ?_; intro v5 w5 ho5 _ hb5; have I5 : Hid (WtInv s.w w (j + 1) v5 w5) := ⟨by rw [SNJ.out, ← i64s_snoc]; exact ho5, B4.out.trans hb5⟩; clear ho5 hb5))
      go_roundw
      case rel => exact ⟨j + 1, by omega, by go_num, I5.out⟩
      case measure => simp [intOf]; omega
    · have hge : ¬ (j : Int) < (M : Int) := by omega
      have hjm : j = M := by omega
      subst hjm
      have HI := Lib.hid hI
      clear hI hlt PWA SN MD
      go_wp2_with fail
      go_ret
      have h := ownsRow_slR HI.out.own
      rw [TA.out] at h
      exact ⟨_, rfl, h.mono fun _ _ _ => trivial, HI.out.b⟩
end Sha
end Go.Proofs.Ytkgpcgkikenljaa
