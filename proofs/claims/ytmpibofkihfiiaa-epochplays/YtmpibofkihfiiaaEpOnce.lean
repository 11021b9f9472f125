/- Layer 8's EpochOnce, over any account of the program's meter. -/
import Derived.Test.YtmpibofkihfiiaaEpLive
namespace Go.Proofs.Ytmpibofkihfiiaa
namespace Sha
open Go.RowKit Mem
/-- What holds of a meter that began at last0. -/
structure On (last0 : Int) (m : Mtr) : Prop where
  nd : m.l.Nodup
  gt : ∀ p ∈ m.l, last0 < p.1
  now : m.now = 0 ∨ last0 < m.now
  ge : last0 ≤ m.last
theorem on_new (last : Int) : On last (Mtr.new last) := ⟨List.nodup_nil, fun p hp => by simp [Mtr.new] at hp, .inl rfl, Int.le_refl _⟩
theorem on_reserve {last0 : Int} {m : Mtr} (h : On last0 m) : On last0 m.reserve.1 := by
  unfold Mtr.reserve
  have := h.ge
  split
  · exact h
  · split
    · exact h
    · exact ⟨h.nd, h.gt, .inr (by show last0 < m.last + 1; omega), by show last0 ≤ m.last + 1; omega⟩
theorem on_use {last0 : Int} {m : Mtr} (h : On last0 m) (b : Int) : On last0 (m.use b).1 := by
  unfold Mtr.use
  split
  · exact h
  · split
    · exact h
    · rename_i hn hm
      refine ⟨?_, fun p hp => ?_, h.now, h.ge⟩
      · show (m.l ++ [(m.now, b)]).Nodup
        rw [List.nodup_append]
        exact ⟨h.nd, by simp, fun x hx y hy => by simp at hy; subst hy; intro e; exact hm (e ▸ hx)⟩
      · rcases List.mem_append.1 hp with h1 | h1
        · exact h.gt p h1
        · simp at h1
          subst h1
          rcases h.now with h2 | h2
          · exact absurd (.inl h2) hn
          · exact h2
theorem on_step {last0 : Int} {m : Mtr} (h : On last0 m) (s : Step8) : On last0 (m.step s).1 := by
  unfold Mtr.step
  split
  · exact on_reserve h
  · split
    · unfold Mtr.done
      split
      · exact h
      · exact ⟨h.nd, h.gt, .inl rfl, h.ge⟩
    · exact on_use h s.b
/-- A step's answers: no reservation; a refused one; a new one. -/
theorem step_cases (m : Mtr) (s : Step8) : (¬ s.k.toNat % 4 = 0 ∧ (m.step s).1.last = m.last) ∨ (s.k.toNat % 4 = 0 ∧ ¬ (m.step s).2.2 = 0 ∧ (m.step s).1.last = m.last) ∨
    (s.k.toNat % 4 = 0 ∧ (m.step s).2.2 = 0 ∧ (m.step s).1.last = m.last + 1 ∧ (m.step s).2.1 = m.last + 1) := by
  by_cases h : s.k.toNat % 4 = 0
  · right
    unfold Mtr.step
    rw [if_pos h]
    unfold Mtr.reserve
    split
    · exact .inl ⟨h, by show ¬ ((7 : Int) = 0); decide, rfl⟩
    · split
      · exact .inl ⟨h, by show ¬ ((20 : Int) = 0); decide, rfl⟩
      · exact .inr ⟨h, rfl, rfl, rfl⟩
  · left
    refine ⟨h, ?_⟩
    unfold Mtr.step
    rw [if_neg h]
    split
    · unfold Mtr.done; split <;> rfl
    · unfold Mtr.use; split
      · rfl
      · split <;> rfl
structure OcInv (R : EAcc) (last0 : Int) (g j : Nat) (w wr : World) (m : Mtr) : Prop where
  h : EMine R g m w wr
  ok : OkM j m
  on : On last0 m
theorem stepC8_one (s : Step8) : ∀ c ∈ (stepC8 s).toList, c.oneCell' = true := by
  intro c hc
  simp [stepC8] at hc
  rcases hc with rfl | rfl <;> rfl
theorem euC_one (p : EU) : ∀ c ∈ (euC p).toList, c.oneCell' = true := by
  intro c hc
  simp [euC] at hc
  rcases hc with rfl | rfl <;> rfl
theorem infoUP : (Try.prog.info? 43).map (·.size) = some 2 := by kernel_rfl
theorem slS8_info {w : World} {v : Value} {l : List Step8} (h : SlS8 w v l) : ∃ a c, v = .slice a l.length c := let ⟨a, c, e, _⟩ := h; ⟨a, c, e⟩
theorem zeroBool (w : World) : (zeroValue 4).run Try.prog w = .ok (.bool false) w := by kernel_rfl
/-- The uses that a law has met, in a map of block bm. -/
abbrev Met (w : World) (bm : Nat) (xs : List EU) : Prop := SetM w Try.prog 43 (plainElem Try.prog 4) (.lit (.bool true)) EUok euL bm xs
/-- A call beside a block of the law's own. -/
theorem ecalls_beside {R : EAcc} (C : EpC R) {P : Program} {f : FuncId} {vs : Array Value} {b : Nat} {m m' : Mtr} {w wr : World} {v : Value} {D : Array Value} {t : TypeId} (h : EMine R b m w wr) (k : ∀ F, R F b (wr.alloc (.cells D t)) m → Calls P f vs (wr.alloc (.cells D t)) fun e w' => e = .returned v ∧ EEnd R F b (wr.alloc (.cells D t)) m' w') :
    Calls P f vs (wr.alloc (.cells D t)) fun e w' => e = .returned v ∧ EMine R b m' w w' ∧ At w' wr.heap.size D t := by
  obtain ⟨F, h1, h2⟩ := h.h
  have hb : Below wr.heap.size wr (wr.alloc (.cells D t)) := (Below.refl _ _).alloc (Nat.le_refl _) _
  have hlt := C.lt h1
  refine (k F (C.below h1 hb)).mono ?_
  rintro e w' ⟨rfl, hs⟩
  obtain ⟨⟨F', h3, h4⟩, h5⟩ := hs
  have hz : w.heap.size ≤ (wr.alloc (.cells D t)).heap.size := Nat.le_trans h.b.size hb.size
  refine ⟨rfl, ⟨⟨F', h3, fun x hx => (h4 x hx).elim (h2 x) (fun hh => Nat.le_trans hz hh)⟩, h5.below (h.b.trans (hb.mono h.b.size)) h2 hz⟩, (at_new wr D t).chg h5 fun hF => by have := hlt _ hF; omega⟩
set_option maxRecDepth 100000 in
set_option maxHeartbeats 4000000 in
theorem once_core {R : EAcc} (C : EpC R) (last : Int) (h0 : 0 ≤ last) (h1 : last ≤ 4294967295) (l : List Step8) (v : Value) (w : World) (hv : SlS8 w v l) (hl : l.length ≤ 9223372036854775807) (hg : ∀ x ∈ l, goodS8 x) :
    Calls Try.prog 4 #[.int .u32 last, v] w fun e w' => e = .returned (.bool true) ∧ Below w.heap.size w w' := by
  have CC := Lib.hid C
  have NEW := Lib.hid (C.new last w h0 h1)
  have SV := Lib.hid hv
  have GOOD : Hid (∀ x ∈ l.take 200, goodS8 x) := Lib.hid fun x hx => hg x (List.mem_of_mem_take hx)
  have LL := Lib.hid hl
  clear C hv hg hl
  go_enter Try.func4, Try.ntmps4
  go_wp2_with fail
  refine NEW.out.mono ?_
  rintro e w1 ⟨g, F, rfl, h2, h3, h4⟩
  have M1 : Hid (EMine R g (Mtr.new last) w w1) := Lib.hid ⟨⟨F, h2, h3⟩, h4⟩
  have S1 := Lib.hid (SV.out.below h4)
  clear h2 h3 h4 NEW
  go_wp2_with fail
  refine (short8_any l v w1 S1.out LL.out).mono ?_
  rintro e w2 ⟨⟨v2, rfl, hs2⟩, rfl⟩
  have S2 := Lib.hid (hs2 _ SV.out)
  obtain ⟨a, cap, rfl⟩ := slS8_info S2.out
  obtain ⟨L, hL⟩ : ∃ L, L = l.take 200 := ⟨_, rfl⟩
  rw [← hL] at S2 GOOD
  have hln : L.length ≤ 200 := by rw [hL, List.length_take]; omega
  rw [← hL]
  obtain ⟨n, hn⟩ : ∃ n, n = L.length := ⟨_, rfl⟩
  rw [← hn] at S2 hln ⊢
  have HN := Lib.hid hn
  have I1 : Hid (OcInv R last g 0 w w1 (Mtr.new last)) := Lib.hid ⟨M1.out, ok_mnew last h0 h1, on_new last⟩
  clear hs2 hL hn M1 S1 SV
  go_wp2_with fail
  go_loopw [6, 21] (fun s i wr => ∃ j : Nat, j ≤ n ∧ i = .int .i64 j ∧ ∃ m, s = .int .u64 m.last ∧ OcInv R last g j w wr m) (fun _ i _ => n - (intOf i).toNat)
  case atStart => exact ⟨0, by omega, rfl, _, rfl, I1.out⟩
  case round =>
    clear I1
    obtain ⟨j, hj, rfl, m, rfl, hI⟩ := hrel
    by_cases hlt : j < n
    · have hlt' : (j : Int) < (n : Int) := by omega
      obtain ⟨b1, o1, ha1, cx⟩ := slS8_at (i := j) (S2.out.below hI.h.b) (by rw [← HN.out]; exact hlt)
      have hin := GOOD.out (L.getD j default) (by rw [List.getD_eq_getElem?_getD, List.getElem?_eq_getElem (by rw [← HN.out]; exact hlt)]; exact List.getElem_mem _)
      obtain ⟨x, hx9⟩ : ∃ x, x = L.getD j default := ⟨_, rfl⟩
      rw [← hx9] at cx hin
      have c0 : wr.cell? ⟨b1, o1 + j * 2, none⟩ = some (.int .u8 (x.k.toNat : Int)) := by rw [show o1 + j * 2 = o1 + (2 * j + 0) by omega]; exact cx 0 (by decide)
      have c1 : wr.cell? ⟨b1, o1 + j * 2 + 1, none⟩ = some (.int .i64 x.b) := by rw [show o1 + j * 2 + 1 = o1 + (2 * j + 1) by omega]; exact cx 1 (by decide)
      subst ha1
      have b3 : Below wr.heap.size wr (wr.alloc (.cells (stepC8 x) 31)) := (Below.refl _ _).alloc (Nat.le_refl _) _
      have hkx := x.k.isLt
      have hl0 := hI.ok.l0
      have hl1 := hI.ok.l1
      have hsc := step_cases m x
      have ok' := ok_step hI.ok x hin
      have on' := on_step hI.on x
      obtain ⟨⟨m', n', f'⟩, hst⟩ : ∃ r, r = m.step x := ⟨_, rfl⟩
      rw [← hst] at hsc ok' on'
      simp only at hsc ok' on'
      obtain ⟨k, hk⟩ : ∃ k, k = x.k.toNat := ⟨_, rfl⟩
      rw [← hk] at c0 hkx hsc
      have hcx : stepC8 x = #[.int .u8 (k : Int), .int .i64 x.b] := by rw [hk]; rfl
      have hpl := ecalls_beside CC.out (t := 31) (D := #[.int .u8 (k : Int), .int .i64 x.b]) hI.h fun F h => by have h9 := play_any CC.out x _ h (hI.ok.mono (show j ≤ 1000 by omega)) hin; rw [hcx, ← hst] at h9; exact h9
      have PL := Lib.hid hpl; have OK' := Lib.hid ok'; have ON' := Lib.hid on'
      clear cx hx9 b3 hI hk hst hin ok' on' hcx hpl
      go_wp2_with fail
      refine PL.out.mono ?_
      rintro e w5 ⟨rfl, m5, a5⟩
      have d0 : w5.cell? ⟨wr.heap.size, 0, none⟩ = some (.int .u8 (k : Int)) := by rw [a5.cell]; rfl
      have M5 := Lib.hid m5
      clear m5 a5 PL c0 c1
      have hzz : wr.heap.size < w5.heap.size := block_lt_of_cell d0
      generalize wr.heap.size = bx at *
      rcases hsc with ⟨g0, e1⟩ | ⟨g0, g1, e1⟩ | ⟨g0, g1, e1, e2⟩
      · have g0' : ¬ (k : Int) % 4 = 0 := by omega
        have E1 := Lib.hid e1
        clear e1
        go_wp2_with fail
        go_roundw
        case rel => exact ⟨j + 1, by omega, by go_num, m', by rw [E1.out], M5.out, OK'.out, ON'.out⟩
        case measure => simp [intOf]; omega
      · have g0' : (k : Int) % 4 = 0 := by omega
        have E1 := Lib.hid e1
        clear e1
        go_wp2_with fail
        go_roundw
        case rel => exact ⟨j + 1, by omega, by go_num, m', by rw [E1.out], M5.out, OK'.out, ON'.out⟩
        case measure => simp [intOf]; omega
      · have g0' : (k : Int) % 4 = 0 := by omega
        subst g1
        have l1' := OK'.out.l1
        have hlt2 : ¬ n' ≤ m.last := by omega
        have hn0 : 0 ≤ n' := by omega
        have hn1 : n' ≤ 4294967295 := by omega
        have E1 : Hid (m'.last = n') := Lib.hid (by omega)
        clear e1 l1'
        go_wp2_with fail
        go_roundw
        case rel => exact ⟨j + 1, by omega, by go_num, m', by rw [E1.out, e2], M5.out, OK'.out, ON'.out⟩
        case measure => simp [intOf]; omega
    · have hj2 : j = n := by omega
      have hge : ¬ (j : Int) < (n : Int) := by omega
      obtain ⟨F, f1, f2⟩ := hI.h.h
      have flt := CC.out.lt f1
      have hb9 := hI.h.b
      have hal : Below wr.heap.size wr (wr.alloc (.map #[] 0)) := (Below.refl _ _).alloc (Nat.le_refl _) _
      have okm := hI.ok.mono (show j ≤ 200 by omega)
      have hus := CC.out.used _ (CC.out.below f1 hal) (okm.mono (show 200 ≤ 1000 by decide))
      have hset : Met (wr.alloc (.map #[] 0)) wr.heap.size [] := setM_made wr _ _ _ _ _ _
      have honm := hI.on
      obtain ⟨bm, hbm⟩ : ∃ bm, bm = wr.heap.size := ⟨_, rfl⟩
      have hsz : (wr.alloc (.map #[] 0)).heap.size = bm + 1 := by rw [hbm]; simp
      rw [← hbm] at hset flt
      have hbw : w.heap.size ≤ bm := by rw [hbm]; exact hb9.size
      have US := Lib.hid hus; have SET := Lib.hid hset; have ON := Lib.hid honm; have OKM := Lib.hid okm; have BA := Lib.hid (hb9.trans (hal.mono hb9.size)); have FL := Lib.hid flt; have HSZ := Lib.hid hsz; have HBM := Lib.hid hbm
      have hl0 := okm.l0
      have hl1 := okm.l1
      obtain ⟨N, hN⟩ : ∃ N, N = m.l.length := ⟨_, rfl⟩
      have hN2 : N ≤ 200 := by rw [hN]; exact okm.len
      have NN := Lib.hid hN
      clear hI f1 f2 flt hb9 hal okm hus hset honm hsz hbm hj hlt hj2 hN
      go_wp2_with (refine wpList_map_made (by rfl) 48 (by rfl) ?_)
      refine US.out.mono ?_
      rw [← NN.out]
      rintro e w6 ⟨v6, rfl, hs6, hb6⟩
      obtain ⟨a6, c6, rfl⟩ := slr_hd hs6
      have hs7 : SlR (fun k => k ≠ bm) w6 2 (.slice a6 N c6) N (euCs m.l) := hs6.mono fun k hk _ => by
        rcases hk with h9 | h9
        · have := FL.out k h9; omega
        · rw [HSZ.out] at h9; omega
      have set6 : Met w6 bm [] := SET.out.below hb6 (by rw [HSZ.out]; omega)
      have B6 := Lib.hid (BA.out.trans (hb6.mono BA.out.size))
      have hbm6 : bm < w6.heap.size := set6.lt
      have S7 := Lib.hid hs7; have SET6 := Lib.hid set6
      rw [← HBM.out]
      clear hs6 hb6 hs7 set6 US SET BA FL HSZ
      go_wp2_with fail
      go_loopw [50] (fun i wx => ∃ q : Nat, q ≤ N ∧ i = .int .i64 q ∧ Chg (fun k => k = bm) w6 wx ∧ Met wx bm (m.l.take q)) (fun i _ => N - (intOf i).toNat)
      case atStart => exact ⟨0, by omega, rfl, Chg.refl _ _, by simpa using SET6.out⟩
      case round =>
        obtain ⟨q, hq, rfl, hc, hm⟩ := hrel
        by_cases hlt : q < N
        · have hlt' : (q : Int) < (N : Int) := by omega
          have hsl : SlR (fun k => k ≠ bm) wr 2 (.slice a6 N c6) N (euCs m.l) := S7.out.keep hc.size fun k hk hk2 => hc.block k hk2 hk
          obtain ⟨b2, o2, rfl, _, hb2, hrg⟩ := eu_range hsl NN.out hlt
          have hqm : m.l.getD q (0, 0) ∈ m.l := by rw [List.getD_eq_getElem?_getD, List.getElem?_eq_getElem (by rw [← NN.out]; exact hlt)]; exact List.getElem_mem _
          have hnx : m.l.take (q + 1) = m.l.take q ++ [m.l.getD q (0, 0)] := by rw [List.take_add_one, List.getD_eq_getElem?_getD, List.getElem?_eq_getElem (by rw [← NN.out]; exact hlt)]; rfl
          have hno : m.l.getD q (0, 0) ∉ m.l.take q := by
            have h9 := ON.out.nd.sublist (List.take_sublist (q + 1) m.l)
            rw [hnx, List.nodup_append] at h9
            intro h8
            exact h9.2.2 _ h8 _ (by simp) rfl
          obtain ⟨⟨p1, p2⟩, hp⟩ : ∃ p, p = m.l.getD q (0, 0) := ⟨_, rfl⟩
          rw [← hp] at hrg hqm hnx hno
          have hok := OKM.out.eu hqm
          obtain ⟨u1, u2, u3, u4'⟩ := OKM.out.uses _ hqm
          have u5 := ON.out.gt _ hqm
          simp only at u1 u2 u3 u4' u5
          have k0 : wr.cell? ⟨b2, o2 + q * 2, none⟩ = some (.int .u32 p1) := hrg 0 _ rfl
          have k1 : wr.cell? ⟨b2, o2 + q * 2 + 1, none⟩ = some (.int .i64 p2) := hrg 1 _ rfl
          have g1 : ¬ p1 ≤ last := by omega
          have g2 : ¬ p1 > m.last := by omega
          have g3 : p1 ≤ 4294967295 := by omega
          have hd : false = true ↔ (p1, p2) ∈ m.l.take q := ⟨fun h => absurd h (by decide), fun h => absurd h hno⟩
          have hal : Below wr.heap.size wr (wr.alloc (.cells (euC (p1, p2)) 43)) := (Below.refl _ _).alloc (Nat.le_refl _) _
          have hma := hm.alloc (.cells (euC (p1, p2)) 43)
          have hca : Chg (fun k => k = bm) w6 (wr.alloc (.cells (euC (p1, p2)) 43)) := hc.trans (Chg.of_below (F := fun k => k = bm) hal) fun k hk => .inl hk
          have hlm : (m.l.take q).length < maxLen := by rw [List.length_take]; unfold maxLen; omega
          have MA := Lib.hid hma; have CA := Lib.hid hca; have NX := Lib.hid hnx; have OKP := Lib.hid hok; have HD := Lib.hid hd; have HLM := Lib.hid hlm
          clear hc hm hsl hrg hqm hnx hno hp hok hal hma hca hlm hd u1 u3 u4'
          go_wp2_with (first
            | (at_lookup; go_loud (refine wpList_set_look (by rfl) 48 _ _ (by rfl) 4 bm (p1, p2) (by rfl) (by rfl) MA.out keyTy_use Try.underlying48 Try.underlying4 (zeroBool _) OKP.out false HD.out ?_))
            | (at_mapUpdate; go_loud (refine wpList_set_put (by rfl) 48 _ _ _ (by rfl) 4 bm (p1, p2) (.bool true) _ _ [] (by rfl) (by rfl) (by rfl) (plainElem_bool Try.underlying4 true) MA.out keyTy_use Try.underlying48 HLM.out OKP.out ?_; intro w8 hs8 hc8 hz8; have S8 := Lib.hid hs8; have C8 : Hid (Chg (fun k => k = bm) w6 w8) := Lib.hid (CA.out.trans hc8 fun k hk => .inl hk); clear hs8 hc8 hz8)))
          go_roundw
          case rel => exact ⟨q + 1, by omega, by go_num, C8.out, S8.out.alike (fun c => by rw [NX.out]; simp [or_comm]) (by rw [NX.out]; simp)⟩
          case measure => simp [intOf]; omega
        · have hge2 : ¬ (q : Int) < (N : Int) := by omega
          have hbx : Below w.heap.size w wr := hc.below B6.out (fun k hk => by subst hk; exact hbw) B6.out.size
          have BX := Lib.hid hbx
          clear hc hm hbx
          go_wp2_with fail
          refine (alive8_any CC.out wr).mono ?_
          rintro e w9 ⟨rfl, hb9⟩
          have B9 := Lib.hid (BX.out.trans (hb9.mono BX.out.size))
          clear hb9
          go_wp2_with fail
          go_ret
          exact ⟨rfl, B9.out⟩
end Sha
end Go.Proofs.Ytmpibofkihfiiaa
