/- Layer 6, DevPlays: a store answers every call, in every order, as the document says. -/
import Derived.Test.YtkgpcgkikenljaaDevEq
namespace Go.Proofs.Ytkgpcgkikenljaa
namespace Sha
open Go.RowKit Mem
theorem slR_hd {F : Foot} {w : World} {z n : Nat} {v : Value} {xs : List Value} (h : SlR F w z v n xs) : ∃ a c, v = .slice a n c := by
  obtain ⟨_, a, c, e, _⟩ := h
  exact ⟨a, c, e⟩
/-- Both stores, all that they have made since w. -/
def PInv (R : StAcc) (bs q n : Nat) (w : World) (m : Nat) (s : St6) (wr : World) : Prop :=
  ∃ F G, Pair R bs q F G s wr ∧ (∀ k, F k → w.heap.size ≤ k) ∧ (∀ k, G k → w.heap.size ≤ k) ∧ Ok6 m s ∧ s.n = n ∧ Below w.heap.size w wr
theorem Pair.below {R : StAcc} (C : DevC R) {bs q : Nat} {F G : Foot} {s : St6} {w wx : World} (h : Pair R bs q F G s w) (hb : Below w.heap.size w wx) : Pair R bs q F G s wx := ⟨C.below h.r hb, h.q.below hb, h.d⟩
theorem Pair.drew {R : StAcc} (C : DevC R) {bs q : Nat} {F G : Foot} {s : St6} {w : World} (h : Pair R bs q F G s w) : Pair R bs q F G s w.drew := h.below C (Below.refl _ _).drew
theorem PInv.below {R : StAcc} (C : DevC R) {bs q n m : Nat} {s : St6} {w wr wx : World} (h : PInv R bs q n w m s wr) (hb : Below wr.heap.size wr wx) : PInv R bs q n w m s wx := by
  obtain ⟨F, G, h1, h2, h3, h4, h5, h6⟩ := h
  exact ⟨F, G, h1.below C hb, h2, h3, h4, h5, h6.trans (hb.mono h6.size)⟩
theorem PInv.base {R : StAcc} {bs q n m : Nat} {s : St6} {w wr : World} (h : PInv R bs q n w m s wr) : Below w.heap.size w wr := by
  obtain ⟨_, _, _, _, _, _, _, h⟩ := h; exact h
/-- What the pair is at a step, by name. -/
structure PAt (R : StAcc) (bs q n : Nat) (w : World) (F G : Foot) (m : Nat) (s : St6) (wr : World) : Prop where
  p : Pair R bs q F G s wr
  f : ∀ k, F k → w.heap.size ≤ k
  g : ∀ k, G k → w.heap.size ≤ k
  ok : Ok6 m s
  n : s.n = n
  b : Below w.heap.size w wr
theorem plays_step {R : StAcc} (_C : DevC R) {bs q n m : Nat} {F G : Foot} {s s2 : St6} {w wr w5 : World} (h : PAt R bs q n w F G m s wr) (hd : DoEnd R bs q F G wr.drew s2 w5) (hok : Ok6 (m + 1) s2) (hn : s2.n = n) : PInv R bs q n w (m + 1) s2 w5 := by
  obtain ⟨F', G', h1, h2, h3⟩ := hd.h
  have hs : wr.drew.heap.size = wr.heap.size := rfl
  have hb := h.b.size
  refine ⟨F', G', h1, fun k hk => (h2 k hk).elim (h.f k) (fun hw => by omega), fun k hk => (h3 k hk).elim (h.g k) (fun hw => by omega), hok, hn, ?_⟩
  exact hd.c.below (h.b.trans ((Below.refl _ _).drew.mono hb)) (fun k hk => hk.elim (h.f k) (h.g k)) hb
/-- How they begin. -/
theorem plays_start {R : StAcc} (C : DevC R) {bs n : Nat} {F : Foot} {w w1 w2 : World} {vb : Value} (hR : R F bs w1 (stNew n)) (hF : ∀ k, F k → w.heap.size ≤ k) (hb1 : Below w.heap.size w w1) (hv : SlB (fun k => w1.heap.size ≤ k) w2 vb (List.replicate (n * 256) 0)) (hb2 : Below w1.heap.size w1 w2) :
    (1 ≤ n → n ≤ 1024 → PInv R bs w2.heap.size n w 0 (stNew n) (w2.alloc (.cells (stRow n vb (.slice none 0 0) (.slice none 0 0) (.slice none 0 0)) 32))) := fun n1 n2 => by
  have hal : Below w2.heap.size w2 (w2.alloc (.cells (stRow n vb (.slice none 0 0) (.slice none 0 0) (.slice none 0 0)) 32)) := (Below.refl _ _).alloc (Nat.le_refl _) _
  have h12 := hb2.size
  have h23 := hal.size
  have h01 := hb1.size
  refine ⟨F, fun k => w1.heap.size ≤ k ∧ k < (w2.alloc (.cells (stRow n vb (.slice none 0 0) (.slice none 0 0) (.slice none 0 0)) 32)).heap.size, ⟨C.below hR (hb2.trans (hal.mono h12)), ⟨⟨h12, by simp⟩, fun k hk => hk.2, vb, _, _, _, at_new w2 _ _, ⟨?_, wPut_nil _ _, wSh_nil _ _, wTr_nil _ _⟩⟩, fun k hk hg => by have := C.lt hR k hk; omega⟩, hF, fun k hk => by omega, ok_new n n1 n2, rfl, hb1.trans ((hb2.trans (hal.mono h12)).mono h01)⟩
  have hv2 : SlB (fun k => w1.heap.size ≤ k ∧ k < w2.heap.size) w2 vb (List.replicate (n * 256) 0) := hv.mono fun k hk hlt => ⟨hk, hlt⟩
  exact (hv2.keep h23 fun k _ hlt => hal.block k hlt).mono fun k hk hlt => ⟨⟨hk.1, hlt⟩, by omega⟩
theorem fst_getD (l : List (Nat × List (BitVec 8))) (j : Nat) (h : j < l.length) : (l.map fun p => (p.1 : Int)).getD j 0 = (((l.getD j (0, [])).1 : Nat) : Int) := by
  simp [List.getD_eq_getElem?_getD, h]
theorem stepC6_one (x : Step6) : (stepC6 x).all (·.oneCell') = true := by simp [stepC6, Value.oneCell']
def zStep6 : Array Value := #[.int .u8 0, .int .i64 0, .int .i64 0, .int .u8 0, .int .u64 0]
set_option maxRecDepth 100000 in
set_option maxHeartbeats 8000000 in
theorem plays_law {R : StAcc} (C : DevC R) (z : Int) (l : List Step6) (vl : Value) (w : World) (hz : -9223372036854775808 ≤ z ∧ z ≤ 9223372036854775807) (hl : SlS6 w vl l) (ll : l.length ≤ 9223372036854775807) (hs : ∀ x ∈ l, goodS6 x) :
    Calls Try.prog 3 #[.int .i64 z, vl] w fun e w' => e = .returned (.bool true) ∧ Below w.heap.size w w' := by
  have CC := Lib.hid C
  have ALV := Lib.hid (fun wx => alive6_any C wx)
  by_cases hbad : z < 1 ∨ 1024 < z
  · have NB := Lib.hid (C.newBad z w hz.1 hz.2 hbad); have RB := Lib.hid (fun wx => rnew_bad z wx hbad)
    clear C hz hl ll hs hbad
    go_enter Try.func3, Try.ntmps3
    go_wp2_with fail
    refine NB.out.mono ?_
    rintro e w1 ⟨rfl, hb1⟩
    have B1 := Lib.hid hb1
    clear hb1 NB
    go_wp2_with fail
    refine (RB.out w1).mono ?_
    rintro e w2 ⟨rfl, hb2⟩
    have B2 := Lib.hid (B1.out.trans (hb2.mono B1.out.size))
    clear hb2 RB B1
    go_wp2_with (refine wpList_store_new (by rfl) 32 _ _ (by rfl) (by rfl) zeroSt _ _ (by rfl) (by rfl) (by exact infoSt6) (by rfl) (by simp [zeroSt, Value.oneCell']) ?_)
    have B3 : Hid (Below w.heap.size w (w2.alloc (.cells zeroSt 32))) := B2.out.alloc B2.out.size _
    refine (ALV.out _).mono ?_
    rintro e w4 ⟨rfl, hb4⟩
    have B4 := Lib.hid (B3.out.trans (hb4.mono B3.out.size))
    clear hb4
    go_wp2_with fail
    go_ret
    exact ⟨rfl, B4.out⟩
  · obtain ⟨n, hzn⟩ : ∃ n : Nat, z = (n : Int) := ⟨z.toNat, by omega⟩
    subst hzn
    have n1 : 1 ≤ n := by omega
    have n2 : n ≤ 1024 := by omega
    have NG := Lib.hid (C.new n w n1 n2); have RG := Lib.hid (fun wx => rnew_good n wx n1 n2)
    have SH := Lib.hid (fun wx => short6_any l vl wx); have HL := Lib.hid hl; have HS := Lib.hid hs; have LL := Lib.hid ll
    clear C hz hl ll hs hbad
    go_enter Try.func3, Try.ntmps3
    go_wp2_with fail
    refine NG.out.mono ?_
    rintro e w1 ⟨bs, F, rfl, hR, hF, hb1⟩
    have R1 := Lib.hid hR; have F1 := Lib.hid hF; have B1 := Lib.hid hb1
    clear hR hF hb1 NG
    go_wp2_with fail
    refine (RG.out w1).mono ?_
    rintro e w2 ⟨vb, rfl, ho2, hb2⟩
    have hsb := ho2.slB
    obtain ⟨ab, capb, rfl⟩ := own_hd ho2 (show n * 256 = (List.replicate (n * 256) (0 : BitVec 8)).length by simp)
    have D2 : ∃ D2, D2 = stRow n (.slice ab (n * 256) capb) (.slice none 0 0) (.slice none 0 0) (.slice none 0 0) := ⟨_, rfl⟩
    have i0 := plays_start CC.out R1.out F1.out B1.out hsb hb2
    have I3 := Lib.hid i0
    have B2 := Lib.hid (B1.out.trans (hb2.mono B1.out.size))
    clear ho2 hb2 RG hsb D2 i0
    by_cases hbig : 20 < n
    · have g20 : (20 : Int) < (n : Int) := by omega
      go_wp2_with (refine wpList_store_new (by rfl) 32 _ _ (by rfl) (by rfl) (stRow n (.slice ab (n * 256) capb) (.slice none 0 0) (.slice none 0 0) (.slice none 0 0)) _ _ (by rfl) (by rfl) (by exact infoSt6) (by rfl) (by simp [stRow, Value.oneCell']) ?_)
      have B3 : Hid (Below w.heap.size w (w2.alloc (.cells (stRow n (.slice ab (n * 256) capb) (.slice none 0 0) (.slice none 0 0) (.slice none 0 0)) 32))) := B2.out.alloc B2.out.size _
      refine (ALV.out _).mono ?_
      rintro e w4 ⟨rfl, hb4⟩
      have B4 := Lib.hid (B3.out.trans (hb4.mono B3.out.size))
      clear hb4
      go_wp2_with fail
      go_ret
      exact ⟨rfl, B4.out⟩
    · have g20 : ¬ (20 : Int) < (n : Int) := by omega
      obtain ⟨q, hq⟩ : ∃ q, q = w2.heap.size := ⟨_, rfl⟩
      go_wp2_with (refine wpList_store_new (by rfl) 32 _ _ (by rfl) (by rfl) (stRow n (.slice ab (n * 256) capb) (.slice none 0 0) (.slice none 0 0) (.slice none 0 0)) _ _ (by rfl) (by rfl) (by exact infoSt6) (by rfl) (by simp [stRow, Value.oneCell']) ?_; rw [← hq] at I3 ⊢; generalize w2.alloc (.cells (stRow n (.slice ab (n * 256) capb) (.slice none 0 0) (.slice none 0 0) (.slice none 0 0)) 32) = w3 at *)
      have I0 := Lib.hid (I3.out n1 n2)
      clear I3
      refine (SH.out _ (HL.out.below I0.out.base) LL.out).mono ?_
      rintro e w' ⟨⟨v, rfl, hst0⟩, rfl⟩
      have hst := hst0 w HL.out
      clear hst0
      have IN := Lib.hid (fun j (hj : j < (l.take 60).length) => (HS.out ((l.take 60).getD j default) (by rw [List.getD_eq_getElem?_getD, List.getElem?_eq_getElem hj]; exact List.mem_of_mem_take (List.getElem_mem hj)) : goodS6 ((l.take 60).getD j default)))
      have h60 : (l.take 60).length ≤ 60 := by simp; omega
      obtain ⟨L, hL⟩ : ∃ L, L = l.take 60 := ⟨_, rfl⟩
      rw [← hL] at hst IN h60
      have ST := Lib.hid hst
      obtain ⟨al, capl, rfl, _, _⟩ := hst
      obtain ⟨ln, hn⟩ : ∃ n, n = L.length := ⟨_, rfl⟩
      rw [← hn] at ST IN h60 ⊢
      have LN := Lib.hid hn
      clear hn hL SH HL HS LL hq B2 R1 F1 B1
      go_wp2_with fail
      go_loopw [54] (fun i wr => ∃ j : Nat, j ≤ ln ∧ i = .int .i64 j ∧ ∃ s, PInv R bs q n w j s wr) (fun i _ => ln - (intOf i).toNat)
      case atStart => exact ⟨0, by omega, rfl, _, I0.out⟩
      case round =>
        clear I0
        obtain ⟨j, hj, rfl, s, hI⟩ := hrel
        by_cases hlt : j < ln
        · have hlt' : (j : Int) < (ln : Int) := by omega
          obtain ⟨b1, o1, ha1, cx⟩ := slS6_at (i := j) (ST.out.below hI.base) (by rw [← LN.out]; exact hlt)
          have hin := IN.out j hlt
          obtain ⟨x, hx9⟩ : ∃ x, x = L.getD j default := ⟨_, rfl⟩
          rw [← hx9] at cx hin
          have c0 : wr.cell? ⟨b1, o1 + j * 5, none⟩ = some (.int .u8 (B8 x.k)) := by rw [show o1 + j * 5 = o1 + (5 * j + 0) by omega]; exact cx 0 (by decide)
          have c1 : wr.cell? ⟨b1, o1 + j * 5 + 1, none⟩ = some (.int .i64 x.n) := by rw [show o1 + j * 5 + 1 = o1 + (5 * j + 1) by omega]; exact cx 1 (by decide)
          have c2 : wr.cell? ⟨b1, o1 + j * 5 + 2, none⟩ = some (.int .i64 x.a) := by rw [show o1 + j * 5 + 2 = o1 + (5 * j + 2) by omega]; exact cx 2 (by decide)
          have c3 : wr.cell? ⟨b1, o1 + j * 5 + 3, none⟩ = some (.int .u8 (B8 x.x)) := by rw [show o1 + j * 5 + 3 = o1 + (5 * j + 3) by omega]; exact cx 3 (by decide)
          have c4 : wr.cell? ⟨b1, o1 + j * 5 + 4, none⟩ = some (.int .u64 (x.q : Int)) := by rw [show o1 + j * 5 + 4 = o1 + (5 * j + 4) by omega]; exact cx 4 (by decide)
          subst ha1
          obtain ⟨F, G, p1, p2, p3, p4, p5, p6⟩ := hI
          have b3 : Below wr.heap.size wr (wr.alloc (.cells (stepC6 x) 39)) := (Below.refl _ _).alloc (Nat.le_refl _) _
          have nbx : ¬ (F wr.heap.size ∨ G wr.heap.size) := fun h => h.elim (fun hf => by have := CC.out.lt p1.r _ hf; omega) (fun hg => by have := p1.q.lt _ hg; omega)
          have GX := Lib.hid hin; have A3 := Lib.hid (at_new wr (stepC6 x) 39); have I3 : Hid (PAt R bs q n w F G j s (wr.alloc (.cells (stepC6 x) 39))) := ⟨p1.below CC.out b3, p2, p3, p4, p5, p6.trans (b3.mono p6.size)⟩; have NBX := Lib.hid nbx; have OKJ := Lib.hid p4; have HSN := Lib.hid p5
          clear cx hin hx9 p1 p2 p3 p4 p5 p6 b3 nbx
          go_wp2_with (refine wpList_store_new (by rfl) 39 _ _ (by rfl) (by rfl) (stepC6 x) _ _ (by rfl) (by rfl) (by exact infoStep6) (by rfl) (stepC6_one x) ?_; clear c0 c1 c2 c3 c4; generalize wr.alloc (.cells (stepC6 x) 39) = w3 at *; generalize wr.heap.size = bx at *)
          have P3 : Hid (Pair R bs q F G s w3) := I3.out.p
          refine wp_region_plan_in (fun w' => At w' bx (stepC6 x) 39) (.take 0 (.take 1 (.sole 2 (.narrow (.take 3 (.take 4 (.take 5 (.take 7 (.sole 6 (.take 8 (.take 9 (.take 10 (.take 11 (.take 13 (.take 14 (.sole 12 (.sole 15 (.take 16 (.take 17 (.take 18 (.take 19 (.take 21 (.take 22 (.sole 20 (.sole 23 (.take 24 (.take 25 (.take 26 (.take 27 (.take 30 (.take 31 (.take 32 (.sole 28 (.take 29 (.take 33 (.take 34 .done)))))))))))))))))))))))))))))))))))) (by kernel_rfl) (by kernel_rfl) (by kernel_rfl) A3.out.drew ?_
          (first | (refine plan_move _ _ (by rfl) (by rfl) (.inl (by rfl)) (by first | (with_reducible exact Mem.ev_const _ _) | (with_reducible exact Mem.ev_zero _ _ _) | (with_reducible (apply Eq.trans (Mem.ev_tmp _ _ _)); simp only [List.getD_cons_succ, List.getD_cons_zero] <;> rfl)) ?_) | (refine plan_move _ _ (by rfl) (by rfl) (.inr (by rfl)) (by first | (with_reducible exact Mem.ev_const _ _) | (with_reducible exact Mem.ev_zero _ _ _) | (with_reducible (apply Eq.trans (Mem.ev_tmp _ _ _)); simp only [List.getD_cons_succ, List.getD_cons_zero] <;> rfl)) ?_) | (refine plan_pick_t _ _ _ _ (by rfl) (by rfl) (by rfl) (by first | (with_reducible exact Mem.ev_const _ _) | (with_reducible exact Mem.ev_zero _ _ _) | (with_reducible (apply Eq.trans (Mem.ev_tmp _ _ _)); simp only [List.getD_cons_succ, List.getD_cons_zero] <;> rfl)) (by first | (with_reducible exact Mem.ev_const _ _) | (with_reducible exact Mem.ev_zero _ _ _) | (with_reducible (apply Eq.trans (Mem.ev_tmp _ _ _)); simp only [List.getD_cons_succ, List.getD_cons_zero] <;> rfl)) ?_) | (refine plan_pick_f _ _ _ _ (by rfl) (by rfl) (by rfl) (by first | (with_reducible exact Mem.ev_const _ _) | (with_reducible exact Mem.ev_zero _ _ _) | (with_reducible (apply Eq.trans (Mem.ev_tmp _ _ _)); simp only [List.getD_cons_succ, List.getD_cons_zero] <;> rfl)) (by first | (with_reducible exact Mem.ev_const _ _) | (with_reducible exact Mem.ev_zero _ _ _) | (with_reducible (apply Eq.trans (Mem.ev_tmp _ _ _)); simp only [List.getD_cons_succ, List.getD_cons_zero] <;> rfl)) ?_))
          (simp only [Act.put, List.setIfInBounds_toArray, List.set_cons_zero, List.set_cons_succ])
          refine plan_row 39 _ bx _ (stepC6 x) 39 (by rfl) (by rfl) (by rfl) (by first | (with_reducible exact Mem.ev_const _ _) | (with_reducible exact Mem.ev_zero _ _ _) | (with_reducible (apply Eq.trans (Mem.ev_tmp _ _ _)); simp only [List.getD_cons_succ, List.getD_cons_zero] <;> rfl)) (fun w' hw' => hw') Try.underlying39 (by rfl) (by exact infoStep6) ?_
          (simp only [Act.put, List.setIfInBounds_toArray, List.set_cons_zero, List.set_cons_succ])
          refine plan_call 11 _ _ _ (by kernel_rfl) (by rfl) (by rfl) (by rfl) (by first | exact Mem.ev_none _ | (simp only [List.map_toArray, List.map_cons, List.map_nil, Mem.ev_tmp, List.getD_cons_succ, List.getD_cons_zero] <;> rfl)) ?_
          refine (do_any CC.out x _ (P3.out.drew CC.out) OKJ.out (by omega) GX.out).mono ?_
          rintro e w5 ⟨rfl, s2, hok2, hn2, hd⟩
          have AX5 := Lib.hid (At.chg (A3.out.drew) hd.c NBX.out)
          have I5 := Lib.hid (plays_step CC.out I3.out hd (hok2) (hn2.trans HSN.out))
          obtain ⟨F5, G5, f5, fF5, fG5, okw5, nn5, bb5⟩ := I5.out
          have OK5 := Lib.hid (okw5.mono (show j + 1 ≤ 1000 by omega))
          obtain ⟨vb, vw, vs, vt, hrv⟩ := f5.q.v
          obtain ⟨ab, capb, rfl⟩ := hrv.four.fb.hd
          obtain ⟨aw, capw, rfl⟩ := hrv.four.fw.hd
          obtain ⟨at4, capt, rfl⟩ := hrv.four.ft.hd
          obtain ⟨TB, hTB⟩ : ∃ TB, TB = s2.b.length := ⟨_, rfl⟩
          obtain ⟨M, hM⟩ : ∃ M, M = s2.w.length := ⟨_, rfl⟩
          obtain ⟨TT, hTT⟩ : ∃ TT, TT = s2.t.length := ⟨_, rfl⟩
          rw [← hTB, ← hM, ← hTT] at hrv
          have C1 : Hid (w5.cell? ⟨q, 1, none⟩ = some (.slice ab TB capb)) := hrv.row.cell' 1 rfl
          have C2 : Hid (w5.cell? ⟨q, 2, none⟩ = some (.slice aw M capw)) := hrv.row.cell' 2 rfl
          have C4 : Hid (w5.cell? ⟨q, 4, none⟩ = some (.slice at4 TT capt)) := hrv.row.cell' 4 rfl
          have QLT := Lib.hid hrv.br
          have SB5 : Hid (Sl w5 (.slice ab TB capb) s2.b) := hrv.four.fb.sl
          have ST5 : Hid (SlR (fun k => G5 k ∧ k ≠ q) w5 1 (.slice at4 TT capt) TT (i64s s2.t)) := (by have h := hrv.four.ft; unfold WTr at h; rw [← hTT] at h; exact h)
          have SW5 : Hid (WPut (fun k => G5 k ∧ k ≠ q) w5 (.slice aw M capw) s2.w) := hrv.four.fw
          have F5R := Lib.hid f5.r
          have HTB := Lib.hid hTB; have HM := Lib.hid hM; have HTT := Lib.hid hTT
          have NN5 := Lib.hid nn5
          clear hok2 hn2 hd f5 fF5 fG5 okw5 nn5 bb5 hrv hTB hM hTT
          refine ⟨_, rfl, AX5.out, ?_⟩
          (simp only [Act.put, List.setIfInBounds_toArray, List.set_cons_zero, List.set_cons_succ])
          refine plan_narrow (fun x' => Below w5.heap.size w5 x') (Below.refl _ _) (fun x' h => AX5.out.below h AX5.out.lt) ?_
          refine plan_not_t _ _ (by rfl) (by rfl) (by rfl) (by first | (with_reducible exact Mem.ev_const _ _) | (with_reducible exact Mem.ev_zero _ _ _) | (with_reducible (apply Eq.trans (Mem.ev_tmp _ _ _)); simp only [List.getD_cons_succ, List.getD_cons_zero] <;> rfl)) ?_
          (simp only [Act.put, List.setIfInBounds_toArray, List.set_cons_zero, List.set_cons_succ])
          (first | (refine plan_move _ _ (by rfl) (by rfl) (.inl (by rfl)) (by first | (with_reducible exact Mem.ev_const _ _) | (with_reducible exact Mem.ev_zero _ _ _) | (with_reducible (apply Eq.trans (Mem.ev_tmp _ _ _)); simp only [List.getD_cons_succ, List.getD_cons_zero] <;> rfl)) ?_) | (refine plan_move _ _ (by rfl) (by rfl) (.inr (by rfl)) (by first | (with_reducible exact Mem.ev_const _ _) | (with_reducible exact Mem.ev_zero _ _ _) | (with_reducible (apply Eq.trans (Mem.ev_tmp _ _ _)); simp only [List.getD_cons_succ, List.getD_cons_zero] <;> rfl)) ?_) | (refine plan_pick_t _ _ _ _ (by rfl) (by rfl) (by rfl) (by first | (with_reducible exact Mem.ev_const _ _) | (with_reducible exact Mem.ev_zero _ _ _) | (with_reducible (apply Eq.trans (Mem.ev_tmp _ _ _)); simp only [List.getD_cons_succ, List.getD_cons_zero] <;> rfl)) (by first | (with_reducible exact Mem.ev_const _ _) | (with_reducible exact Mem.ev_zero _ _ _) | (with_reducible (apply Eq.trans (Mem.ev_tmp _ _ _)); simp only [List.getD_cons_succ, List.getD_cons_zero] <;> rfl)) ?_) | (refine plan_pick_f _ _ _ _ (by rfl) (by rfl) (by rfl) (by first | (with_reducible exact Mem.ev_const _ _) | (with_reducible exact Mem.ev_zero _ _ _) | (with_reducible (apply Eq.trans (Mem.ev_tmp _ _ _)); simp only [List.getD_cons_succ, List.getD_cons_zero] <;> rfl)) (by first | (with_reducible exact Mem.ev_const _ _) | (with_reducible exact Mem.ev_zero _ _ _) | (with_reducible (apply Eq.trans (Mem.ev_tmp _ _ _)); simp only [List.getD_cons_succ, List.getD_cons_zero] <;> rfl)) ?_))
          (simp only [Act.put, List.setIfInBounds_toArray, List.set_cons_zero, List.set_cons_succ])
          (first | (refine plan_move _ _ (by rfl) (by rfl) (.inl (by rfl)) (by first | (with_reducible exact Mem.ev_const _ _) | (with_reducible exact Mem.ev_zero _ _ _) | (with_reducible (apply Eq.trans (Mem.ev_tmp _ _ _)); simp only [List.getD_cons_succ, List.getD_cons_zero] <;> rfl)) ?_) | (refine plan_move _ _ (by rfl) (by rfl) (.inr (by rfl)) (by first | (with_reducible exact Mem.ev_const _ _) | (with_reducible exact Mem.ev_zero _ _ _) | (with_reducible (apply Eq.trans (Mem.ev_tmp _ _ _)); simp only [List.getD_cons_succ, List.getD_cons_zero] <;> rfl)) ?_) | (refine plan_pick_t _ _ _ _ (by rfl) (by rfl) (by rfl) (by first | (with_reducible exact Mem.ev_const _ _) | (with_reducible exact Mem.ev_zero _ _ _) | (with_reducible (apply Eq.trans (Mem.ev_tmp _ _ _)); simp only [List.getD_cons_succ, List.getD_cons_zero] <;> rfl)) (by first | (with_reducible exact Mem.ev_const _ _) | (with_reducible exact Mem.ev_zero _ _ _) | (with_reducible (apply Eq.trans (Mem.ev_tmp _ _ _)); simp only [List.getD_cons_succ, List.getD_cons_zero] <;> rfl)) ?_) | (refine plan_pick_f _ _ _ _ (by rfl) (by rfl) (by rfl) (by first | (with_reducible exact Mem.ev_const _ _) | (with_reducible exact Mem.ev_zero _ _ _) | (with_reducible (apply Eq.trans (Mem.ev_tmp _ _ _)); simp only [List.getD_cons_succ, List.getD_cons_zero] <;> rfl)) (by first | (with_reducible exact Mem.ev_const _ _) | (with_reducible exact Mem.ev_zero _ _ _) | (with_reducible (apply Eq.trans (Mem.ev_tmp _ _ _)); simp only [List.getD_cons_succ, List.getD_cons_zero] <;> rfl)) ?_))
          (simp only [Act.put, List.setIfInBounds_toArray, List.set_cons_zero, List.set_cons_succ])
          (first | (refine plan_move _ _ (by rfl) (by rfl) (.inl (by rfl)) (by first | (with_reducible exact Mem.ev_const _ _) | (with_reducible exact Mem.ev_zero _ _ _) | (with_reducible (apply Eq.trans (Mem.ev_tmp _ _ _)); simp only [List.getD_cons_succ, List.getD_cons_zero] <;> rfl)) ?_) | (refine plan_move _ _ (by rfl) (by rfl) (.inr (by rfl)) (by first | (with_reducible exact Mem.ev_const _ _) | (with_reducible exact Mem.ev_zero _ _ _) | (with_reducible (apply Eq.trans (Mem.ev_tmp _ _ _)); simp only [List.getD_cons_succ, List.getD_cons_zero] <;> rfl)) ?_) | (refine plan_pick_t _ _ _ _ (by rfl) (by rfl) (by rfl) (by first | (with_reducible exact Mem.ev_const _ _) | (with_reducible exact Mem.ev_zero _ _ _) | (with_reducible (apply Eq.trans (Mem.ev_tmp _ _ _)); simp only [List.getD_cons_succ, List.getD_cons_zero] <;> rfl)) (by first | (with_reducible exact Mem.ev_const _ _) | (with_reducible exact Mem.ev_zero _ _ _) | (with_reducible (apply Eq.trans (Mem.ev_tmp _ _ _)); simp only [List.getD_cons_succ, List.getD_cons_zero] <;> rfl)) ?_) | (refine plan_pick_f _ _ _ _ (by rfl) (by rfl) (by rfl) (by first | (with_reducible exact Mem.ev_const _ _) | (with_reducible exact Mem.ev_zero _ _ _) | (with_reducible (apply Eq.trans (Mem.ev_tmp _ _ _)); simp only [List.getD_cons_succ, List.getD_cons_zero] <;> rfl)) (by first | (with_reducible exact Mem.ev_const _ _) | (with_reducible exact Mem.ev_zero _ _ _) | (with_reducible (apply Eq.trans (Mem.ev_tmp _ _ _)); simp only [List.getD_cons_succ, List.getD_cons_zero] <;> rfl)) ?_))
          (simp only [Act.put, List.setIfInBounds_toArray, List.set_cons_zero, List.set_cons_succ])
          refine plan_call 12 _ _ _ (by kernel_rfl) (by rfl) (by rfl) (by rfl) (by first | exact Mem.ev_none _ | (simp only [List.map_toArray, List.map_cons, List.map_nil, Mem.ev_tmp, List.getD_cons_succ, List.getD_cons_zero] <;> rfl)) ?_
          refine (CC.out.len w5 F5R.out OK5.out).mono ?_
          rintro e w6 ⟨rfl, hb6⟩
          have B6 := Lib.hid hb6
          clear hb6
          rw [NN5.out]
          refine ⟨_, rfl, B6.out, ?_⟩
          (simp only [Act.put, List.setIfInBounds_toArray, List.set_cons_zero, List.set_cons_succ])
          refine plan_bin _ _ _ _ _ _ _ _ (by rfl) (by rfl) (by rfl) (by first | (with_reducible exact Mem.ev_const _ _) | (with_reducible exact Mem.ev_zero _ _ _) | (with_reducible (apply Eq.trans (Mem.ev_tmp _ _ _)); simp only [List.getD_cons_succ, List.getD_cons_zero] <;> rfl)) (by first | (with_reducible exact Mem.ev_const _ _) | (with_reducible exact Mem.ev_zero _ _ _) | (with_reducible (apply Eq.trans (Mem.ev_tmp _ _ _)); simp only [List.getD_cons_succ, List.getD_cons_zero] <;> rfl)) (fun wx => (by go_simp : (do eqGuard .neq 3 _ _ (.int .i64 (n : Int)) (.int .i64 (n : Int)); Go.binOp .neq 3 (.int .i64 (n : Int)) (.int .i64 (n : Int)) : Sem Value).run Try.prog wx = .ok (.bool false) wx)) ?_
          (simp only [Act.put, List.setIfInBounds_toArray, List.set_cons_zero, List.set_cons_succ])
          refine plan_pick_f _ _ _ _ (by rfl) (by rfl) (by rfl) (by first | (with_reducible exact Mem.ev_const _ _) | (with_reducible exact Mem.ev_zero _ _ _) | (with_reducible (apply Eq.trans (Mem.ev_tmp _ _ _)); simp only [List.getD_cons_succ, List.getD_cons_zero] <;> rfl)) (by first | (with_reducible exact Mem.ev_const _ _) | (with_reducible exact Mem.ev_zero _ _ _) | (with_reducible (apply Eq.trans (Mem.ev_tmp _ _ _)); simp only [List.getD_cons_succ, List.getD_cons_zero] <;> rfl)) ?_
          (simp only [Act.put, List.setIfInBounds_toArray, List.set_cons_zero, List.set_cons_succ])
          (first | (refine plan_move _ _ (by rfl) (by rfl) (.inl (by rfl)) (by first | (with_reducible exact Mem.ev_const _ _) | (with_reducible exact Mem.ev_zero _ _ _) | (with_reducible (apply Eq.trans (Mem.ev_tmp _ _ _)); simp only [List.getD_cons_succ, List.getD_cons_zero] <;> rfl)) ?_) | (refine plan_move _ _ (by rfl) (by rfl) (.inr (by rfl)) (by first | (with_reducible exact Mem.ev_const _ _) | (with_reducible exact Mem.ev_zero _ _ _) | (with_reducible (apply Eq.trans (Mem.ev_tmp _ _ _)); simp only [List.getD_cons_succ, List.getD_cons_zero] <;> rfl)) ?_) | (refine plan_pick_t _ _ _ _ (by rfl) (by rfl) (by rfl) (by first | (with_reducible exact Mem.ev_const _ _) | (with_reducible exact Mem.ev_zero _ _ _) | (with_reducible (apply Eq.trans (Mem.ev_tmp _ _ _)); simp only [List.getD_cons_succ, List.getD_cons_zero] <;> rfl)) (by first | (with_reducible exact Mem.ev_const _ _) | (with_reducible exact Mem.ev_zero _ _ _) | (with_reducible (apply Eq.trans (Mem.ev_tmp _ _ _)); simp only [List.getD_cons_succ, List.getD_cons_zero] <;> rfl)) ?_) | (refine plan_pick_f _ _ _ _ (by rfl) (by rfl) (by rfl) (by first | (with_reducible exact Mem.ev_const _ _) | (with_reducible exact Mem.ev_zero _ _ _) | (with_reducible (apply Eq.trans (Mem.ev_tmp _ _ _)); simp only [List.getD_cons_succ, List.getD_cons_zero] <;> rfl)) (by first | (with_reducible exact Mem.ev_const _ _) | (with_reducible exact Mem.ev_zero _ _ _) | (with_reducible (apply Eq.trans (Mem.ev_tmp _ _ _)); simp only [List.getD_cons_succ, List.getD_cons_zero] <;> rfl)) ?_))
          (simp only [Act.put, List.setIfInBounds_toArray, List.set_cons_zero, List.set_cons_succ])
          (first | (refine plan_move _ _ (by rfl) (by rfl) (.inl (by rfl)) (by first | (with_reducible exact Mem.ev_const _ _) | (with_reducible exact Mem.ev_zero _ _ _) | (with_reducible (apply Eq.trans (Mem.ev_tmp _ _ _)); simp only [List.getD_cons_succ, List.getD_cons_zero] <;> rfl)) ?_) | (refine plan_move _ _ (by rfl) (by rfl) (.inr (by rfl)) (by first | (with_reducible exact Mem.ev_const _ _) | (with_reducible exact Mem.ev_zero _ _ _) | (with_reducible (apply Eq.trans (Mem.ev_tmp _ _ _)); simp only [List.getD_cons_succ, List.getD_cons_zero] <;> rfl)) ?_) | (refine plan_pick_t _ _ _ _ (by rfl) (by rfl) (by rfl) (by first | (with_reducible exact Mem.ev_const _ _) | (with_reducible exact Mem.ev_zero _ _ _) | (with_reducible (apply Eq.trans (Mem.ev_tmp _ _ _)); simp only [List.getD_cons_succ, List.getD_cons_zero] <;> rfl)) (by first | (with_reducible exact Mem.ev_const _ _) | (with_reducible exact Mem.ev_zero _ _ _) | (with_reducible (apply Eq.trans (Mem.ev_tmp _ _ _)); simp only [List.getD_cons_succ, List.getD_cons_zero] <;> rfl)) ?_) | (refine plan_pick_f _ _ _ _ (by rfl) (by rfl) (by rfl) (by first | (with_reducible exact Mem.ev_const _ _) | (with_reducible exact Mem.ev_zero _ _ _) | (with_reducible (apply Eq.trans (Mem.ev_tmp _ _ _)); simp only [List.getD_cons_succ, List.getD_cons_zero] <;> rfl)) (by first | (with_reducible exact Mem.ev_const _ _) | (with_reducible exact Mem.ev_zero _ _ _) | (with_reducible (apply Eq.trans (Mem.ev_tmp _ _ _)); simp only [List.getD_cons_succ, List.getD_cons_zero] <;> rfl)) ?_))
          (simp only [Act.put, List.setIfInBounds_toArray, List.set_cons_zero, List.set_cons_succ])
          refine plan_field 32 _ 1 q 0 ⟨q, 1, none⟩ (by rfl) (by rfl) (by rfl) (by first | (with_reducible exact Mem.ev_const _ _) | (with_reducible exact Mem.ev_zero _ _ _) | (with_reducible (apply Eq.trans (Mem.ev_tmp _ _ _)); simp only [List.getD_cons_succ, List.getD_cons_zero] <;> rfl)) (fun wx => by go_simp) ?_
          (simp only [Act.put, List.setIfInBounds_toArray, List.set_cons_zero, List.set_cons_succ])
          refine plan_cell 27 _ _ (.slice ab TB capb) _ (by rfl) (by rfl) (by rfl) (by first | (with_reducible exact Mem.ev_const _ _) | (with_reducible exact Mem.ev_zero _ _ _) | (with_reducible (apply Eq.trans (Mem.ev_tmp _ _ _)); simp only [List.getD_cons_succ, List.getD_cons_zero] <;> rfl)) (fun w' hw' => (hw'.cell (p := ⟨q, 1, none⟩) QLT.out).trans C1.out) Try.underlying27 (by rfl) ?_
          (simp only [Act.put, List.setIfInBounds_toArray, List.set_cons_zero, List.set_cons_succ])
          refine plan_call 14 _ _ _ (by kernel_rfl) (by rfl) (by rfl) (by rfl) (by first | exact Mem.ev_none _ | (simp only [List.map_toArray, List.map_cons, List.map_nil, Mem.ev_tmp, List.getD_cons_succ, List.getD_cons_zero] <;> rfl)) ?_
          refine (CC.out.bytes w6 (CC.out.below F5R.out B6.out) OK5.out).mono ?_
          rintro e w7 ⟨v7, rfl, ho7, hb7⟩
          obtain ⟨a7, c7, rfl⟩ := own_hd (n := TB) ho7 HTB.out
          have S7 := Lib.hid ho7.sl; have B7 := Lib.hid (B6.out.trans (hb7.mono B6.out.size))
          clear ho7 hb7
          refine ⟨_, rfl, B7.out, ?_⟩
          (simp only [Act.put, List.setIfInBounds_toArray, List.set_cons_zero, List.set_cons_succ])
          refine plan_call 13 _ _ _ (by kernel_rfl) (by rfl) (by rfl) (by rfl) (by first | exact Mem.ev_none _ | (simp only [List.map_toArray, List.map_cons, List.map_nil, Mem.ev_tmp, List.getD_cons_succ, List.getD_cons_zero] <;> rfl)) ?_
          refine (same_any s2.b s2.b _ _ w7 S7.out (SB5.out.below B7.out) (by rw [OK5.out.b]; have := OK5.out.n2; omega) (by rw [OK5.out.b]; have := OK5.out.n2; omega)).mono ?_
          rintro e w8 ⟨rfl, hb8⟩
          rw [sameB_self]
          have B8 := Lib.hid (B7.out.trans (hb8.mono B7.out.size))
          clear hb8
          refine ⟨_, rfl, B8.out, ?_⟩
          (simp only [Act.put, List.setIfInBounds_toArray, List.set_cons_zero, List.set_cons_succ])
          refine plan_not_t _ _ (by rfl) (by rfl) (by rfl) (by first | (with_reducible exact Mem.ev_const _ _) | (with_reducible exact Mem.ev_zero _ _ _) | (with_reducible (apply Eq.trans (Mem.ev_tmp _ _ _)); simp only [List.getD_cons_succ, List.getD_cons_zero] <;> rfl)) ?_
          (simp only [Act.put, List.setIfInBounds_toArray, List.set_cons_zero, List.set_cons_succ])
          refine plan_pick_f _ _ _ _ (by rfl) (by rfl) (by rfl) (by first | (with_reducible exact Mem.ev_const _ _) | (with_reducible exact Mem.ev_zero _ _ _) | (with_reducible (apply Eq.trans (Mem.ev_tmp _ _ _)); simp only [List.getD_cons_succ, List.getD_cons_zero] <;> rfl)) (by first | (with_reducible exact Mem.ev_const _ _) | (with_reducible exact Mem.ev_zero _ _ _) | (with_reducible (apply Eq.trans (Mem.ev_tmp _ _ _)); simp only [List.getD_cons_succ, List.getD_cons_zero] <;> rfl)) ?_
          (simp only [Act.put, List.setIfInBounds_toArray, List.set_cons_zero, List.set_cons_succ])
          (first | (refine plan_move _ _ (by rfl) (by rfl) (.inl (by rfl)) (by first | (with_reducible exact Mem.ev_const _ _) | (with_reducible exact Mem.ev_zero _ _ _) | (with_reducible (apply Eq.trans (Mem.ev_tmp _ _ _)); simp only [List.getD_cons_succ, List.getD_cons_zero] <;> rfl)) ?_) | (refine plan_move _ _ (by rfl) (by rfl) (.inr (by rfl)) (by first | (with_reducible exact Mem.ev_const _ _) | (with_reducible exact Mem.ev_zero _ _ _) | (with_reducible (apply Eq.trans (Mem.ev_tmp _ _ _)); simp only [List.getD_cons_succ, List.getD_cons_zero] <;> rfl)) ?_) | (refine plan_pick_t _ _ _ _ (by rfl) (by rfl) (by rfl) (by first | (with_reducible exact Mem.ev_const _ _) | (with_reducible exact Mem.ev_zero _ _ _) | (with_reducible (apply Eq.trans (Mem.ev_tmp _ _ _)); simp only [List.getD_cons_succ, List.getD_cons_zero] <;> rfl)) (by first | (with_reducible exact Mem.ev_const _ _) | (with_reducible exact Mem.ev_zero _ _ _) | (with_reducible (apply Eq.trans (Mem.ev_tmp _ _ _)); simp only [List.getD_cons_succ, List.getD_cons_zero] <;> rfl)) ?_) | (refine plan_pick_f _ _ _ _ (by rfl) (by rfl) (by rfl) (by first | (with_reducible exact Mem.ev_const _ _) | (with_reducible exact Mem.ev_zero _ _ _) | (with_reducible (apply Eq.trans (Mem.ev_tmp _ _ _)); simp only [List.getD_cons_succ, List.getD_cons_zero] <;> rfl)) (by first | (with_reducible exact Mem.ev_const _ _) | (with_reducible exact Mem.ev_zero _ _ _) | (with_reducible (apply Eq.trans (Mem.ev_tmp _ _ _)); simp only [List.getD_cons_succ, List.getD_cons_zero] <;> rfl)) ?_))
          (simp only [Act.put, List.setIfInBounds_toArray, List.set_cons_zero, List.set_cons_succ])
          (first | (refine plan_move _ _ (by rfl) (by rfl) (.inl (by rfl)) (by first | (with_reducible exact Mem.ev_const _ _) | (with_reducible exact Mem.ev_zero _ _ _) | (with_reducible (apply Eq.trans (Mem.ev_tmp _ _ _)); simp only [List.getD_cons_succ, List.getD_cons_zero] <;> rfl)) ?_) | (refine plan_move _ _ (by rfl) (by rfl) (.inr (by rfl)) (by first | (with_reducible exact Mem.ev_const _ _) | (with_reducible exact Mem.ev_zero _ _ _) | (with_reducible (apply Eq.trans (Mem.ev_tmp _ _ _)); simp only [List.getD_cons_succ, List.getD_cons_zero] <;> rfl)) ?_) | (refine plan_pick_t _ _ _ _ (by rfl) (by rfl) (by rfl) (by first | (with_reducible exact Mem.ev_const _ _) | (with_reducible exact Mem.ev_zero _ _ _) | (with_reducible (apply Eq.trans (Mem.ev_tmp _ _ _)); simp only [List.getD_cons_succ, List.getD_cons_zero] <;> rfl)) (by first | (with_reducible exact Mem.ev_const _ _) | (with_reducible exact Mem.ev_zero _ _ _) | (with_reducible (apply Eq.trans (Mem.ev_tmp _ _ _)); simp only [List.getD_cons_succ, List.getD_cons_zero] <;> rfl)) ?_) | (refine plan_pick_f _ _ _ _ (by rfl) (by rfl) (by rfl) (by first | (with_reducible exact Mem.ev_const _ _) | (with_reducible exact Mem.ev_zero _ _ _) | (with_reducible (apply Eq.trans (Mem.ev_tmp _ _ _)); simp only [List.getD_cons_succ, List.getD_cons_zero] <;> rfl)) (by first | (with_reducible exact Mem.ev_const _ _) | (with_reducible exact Mem.ev_zero _ _ _) | (with_reducible (apply Eq.trans (Mem.ev_tmp _ _ _)); simp only [List.getD_cons_succ, List.getD_cons_zero] <;> rfl)) ?_))
          (simp only [Act.put, List.setIfInBounds_toArray, List.set_cons_zero, List.set_cons_succ])
          refine plan_field 32 _ 4 q 0 ⟨q, 4, none⟩ (by rfl) (by rfl) (by rfl) (by first | (with_reducible exact Mem.ev_const _ _) | (with_reducible exact Mem.ev_zero _ _ _) | (with_reducible (apply Eq.trans (Mem.ev_tmp _ _ _)); simp only [List.getD_cons_succ, List.getD_cons_zero] <;> rfl)) (fun wx => by go_simp) ?_
          (simp only [Act.put, List.setIfInBounds_toArray, List.set_cons_zero, List.set_cons_succ])
          refine plan_cell 30 _ _ (.slice at4 TT capt) _ (by rfl) (by rfl) (by rfl) (by first | (with_reducible exact Mem.ev_const _ _) | (with_reducible exact Mem.ev_zero _ _ _) | (with_reducible (apply Eq.trans (Mem.ev_tmp _ _ _)); simp only [List.getD_cons_succ, List.getD_cons_zero] <;> rfl)) (fun w' hw' => (hw'.cell (p := ⟨q, 4, none⟩) QLT.out).trans C4.out) Try.underlying30 (by rfl) ?_
          (simp only [Act.put, List.setIfInBounds_toArray, List.set_cons_zero, List.set_cons_succ])
          refine plan_call 16 _ _ _ (by kernel_rfl) (by rfl) (by rfl) (by rfl) (by first | exact Mem.ev_none _ | (simp only [List.map_toArray, List.map_cons, List.map_nil, Mem.ev_tmp, List.getD_cons_succ, List.getD_cons_zero] <;> rfl)) ?_
          refine (CC.out.trace w8 (CC.out.below F5R.out B8.out) OK5.out).mono ?_
          rintro e w9 ⟨v9, rfl, ho9, hb9⟩
          have S9 := Lib.hid (ownsRow_slR ho9); have B9 := Lib.hid (B8.out.trans (hb9.mono B8.out.size))
          clear ho9 hb9
          refine ⟨_, rfl, B9.out, ?_⟩
          (simp only [Act.put, List.setIfInBounds_toArray, List.set_cons_zero, List.set_cons_succ])
          refine plan_call 15 _ _ _ (by kernel_rfl) (by rfl) (by rfl) (by rfl) (by first | exact Mem.ev_none _ | (simp only [List.map_toArray, List.map_cons, List.map_nil, Mem.ev_tmp, List.getD_cons_succ, List.getD_cons_zero] <;> rfl)) ?_
          refine (sameI_any s2.t _ _ w9 S9.out (by have h := SlR.below ST5.out B9.out; rw [HTT.out] at h ⊢; exact h) (Nat.le_trans OK5.out.t (by decide))).mono ?_
          rintro e w10 ⟨rfl, hb10⟩
          have B10 := Lib.hid (B9.out.trans (hb10.mono B9.out.size))
          clear hb10
          refine ⟨_, rfl, B10.out, ?_⟩
          (simp only [Act.put, List.setIfInBounds_toArray, List.set_cons_zero, List.set_cons_succ])
          refine plan_not_t _ _ (by rfl) (by rfl) (by rfl) (by first | (with_reducible exact Mem.ev_const _ _) | (with_reducible exact Mem.ev_zero _ _ _) | (with_reducible (apply Eq.trans (Mem.ev_tmp _ _ _)); simp only [List.getD_cons_succ, List.getD_cons_zero] <;> rfl)) ?_
          (simp only [Act.put, List.setIfInBounds_toArray, List.set_cons_zero, List.set_cons_succ])
          refine plan_pick_f _ _ _ _ (by rfl) (by rfl) (by rfl) (by first | (with_reducible exact Mem.ev_const _ _) | (with_reducible exact Mem.ev_zero _ _ _) | (with_reducible (apply Eq.trans (Mem.ev_tmp _ _ _)); simp only [List.getD_cons_succ, List.getD_cons_zero] <;> rfl)) (by first | (with_reducible exact Mem.ev_const _ _) | (with_reducible exact Mem.ev_zero _ _ _) | (with_reducible (apply Eq.trans (Mem.ev_tmp _ _ _)); simp only [List.getD_cons_succ, List.getD_cons_zero] <;> rfl)) ?_
          (simp only [Act.put, List.setIfInBounds_toArray, List.set_cons_zero, List.set_cons_succ])
          (first | (refine plan_move _ _ (by rfl) (by rfl) (.inl (by rfl)) (by first | (with_reducible exact Mem.ev_const _ _) | (with_reducible exact Mem.ev_zero _ _ _) | (with_reducible (apply Eq.trans (Mem.ev_tmp _ _ _)); simp only [List.getD_cons_succ, List.getD_cons_zero] <;> rfl)) ?_) | (refine plan_move _ _ (by rfl) (by rfl) (.inr (by rfl)) (by first | (with_reducible exact Mem.ev_const _ _) | (with_reducible exact Mem.ev_zero _ _ _) | (with_reducible (apply Eq.trans (Mem.ev_tmp _ _ _)); simp only [List.getD_cons_succ, List.getD_cons_zero] <;> rfl)) ?_) | (refine plan_pick_t _ _ _ _ (by rfl) (by rfl) (by rfl) (by first | (with_reducible exact Mem.ev_const _ _) | (with_reducible exact Mem.ev_zero _ _ _) | (with_reducible (apply Eq.trans (Mem.ev_tmp _ _ _)); simp only [List.getD_cons_succ, List.getD_cons_zero] <;> rfl)) (by first | (with_reducible exact Mem.ev_const _ _) | (with_reducible exact Mem.ev_zero _ _ _) | (with_reducible (apply Eq.trans (Mem.ev_tmp _ _ _)); simp only [List.getD_cons_succ, List.getD_cons_zero] <;> rfl)) ?_) | (refine plan_pick_f _ _ _ _ (by rfl) (by rfl) (by rfl) (by first | (with_reducible exact Mem.ev_const _ _) | (with_reducible exact Mem.ev_zero _ _ _) | (with_reducible (apply Eq.trans (Mem.ev_tmp _ _ _)); simp only [List.getD_cons_succ, List.getD_cons_zero] <;> rfl)) (by first | (with_reducible exact Mem.ev_const _ _) | (with_reducible exact Mem.ev_zero _ _ _) | (with_reducible (apply Eq.trans (Mem.ev_tmp _ _ _)); simp only [List.getD_cons_succ, List.getD_cons_zero] <;> rfl)) ?_))
          (simp only [Act.put, List.setIfInBounds_toArray, List.set_cons_zero, List.set_cons_succ])
          (first | (refine plan_move _ _ (by rfl) (by rfl) (.inl (by rfl)) (by first | (with_reducible exact Mem.ev_const _ _) | (with_reducible exact Mem.ev_zero _ _ _) | (with_reducible (apply Eq.trans (Mem.ev_tmp _ _ _)); simp only [List.getD_cons_succ, List.getD_cons_zero] <;> rfl)) ?_) | (refine plan_move _ _ (by rfl) (by rfl) (.inr (by rfl)) (by first | (with_reducible exact Mem.ev_const _ _) | (with_reducible exact Mem.ev_zero _ _ _) | (with_reducible (apply Eq.trans (Mem.ev_tmp _ _ _)); simp only [List.getD_cons_succ, List.getD_cons_zero] <;> rfl)) ?_) | (refine plan_pick_t _ _ _ _ (by rfl) (by rfl) (by rfl) (by first | (with_reducible exact Mem.ev_const _ _) | (with_reducible exact Mem.ev_zero _ _ _) | (with_reducible (apply Eq.trans (Mem.ev_tmp _ _ _)); simp only [List.getD_cons_succ, List.getD_cons_zero] <;> rfl)) (by first | (with_reducible exact Mem.ev_const _ _) | (with_reducible exact Mem.ev_zero _ _ _) | (with_reducible (apply Eq.trans (Mem.ev_tmp _ _ _)); simp only [List.getD_cons_succ, List.getD_cons_zero] <;> rfl)) ?_) | (refine plan_pick_f _ _ _ _ (by rfl) (by rfl) (by rfl) (by first | (with_reducible exact Mem.ev_const _ _) | (with_reducible exact Mem.ev_zero _ _ _) | (with_reducible (apply Eq.trans (Mem.ev_tmp _ _ _)); simp only [List.getD_cons_succ, List.getD_cons_zero] <;> rfl)) (by first | (with_reducible exact Mem.ev_const _ _) | (with_reducible exact Mem.ev_zero _ _ _) | (with_reducible (apply Eq.trans (Mem.ev_tmp _ _ _)); simp only [List.getD_cons_succ, List.getD_cons_zero] <;> rfl)) ?_))
          (simp only [Act.put, List.setIfInBounds_toArray, List.set_cons_zero, List.set_cons_succ])
          refine plan_field 32 _ 2 q 0 ⟨q, 2, none⟩ (by rfl) (by rfl) (by rfl) (by first | (with_reducible exact Mem.ev_const _ _) | (with_reducible exact Mem.ev_zero _ _ _) | (with_reducible (apply Eq.trans (Mem.ev_tmp _ _ _)); simp only [List.getD_cons_succ, List.getD_cons_zero] <;> rfl)) (fun wx => by go_simp) ?_
          (simp only [Act.put, List.setIfInBounds_toArray, List.set_cons_zero, List.set_cons_succ])
          refine plan_cell 28 _ _ (.slice aw M capw) _ (by rfl) (by rfl) (by rfl) (by first | (with_reducible exact Mem.ev_const _ _) | (with_reducible exact Mem.ev_zero _ _ _) | (with_reducible (apply Eq.trans (Mem.ev_tmp _ _ _)); simp only [List.getD_cons_succ, List.getD_cons_zero] <;> rfl)) (fun w' hw' => (hw'.cell (p := ⟨q, 2, none⟩) QLT.out).trans C2.out) Try.underlying28 (by rfl) ?_
          (simp only [Act.put, List.setIfInBounds_toArray, List.set_cons_zero, List.set_cons_succ])
          refine plan_len _ _ _ _ M _ (by rfl) (by rfl) (by rfl) (by rfl) (by first | (with_reducible exact Mem.ev_const _ _) | (with_reducible exact Mem.ev_zero _ _ _) | (with_reducible (apply Eq.trans (Mem.ev_tmp _ _ _)); simp only [List.getD_cons_succ, List.getD_cons_zero] <;> rfl)) (fun wx => by go_simp) ?_
          (simp only [Act.put, List.setIfInBounds_toArray, List.set_cons_zero, List.set_cons_succ])
          refine plan_call 17 _ _ _ (by kernel_rfl) (by rfl) (by rfl) (by rfl) (by first | exact Mem.ev_none _ | (simp only [List.map_toArray, List.map_cons, List.map_nil, Mem.ev_tmp, List.getD_cons_succ, List.getD_cons_zero] <;> rfl)) ?_
          refine (CC.out.waiting w10 (CC.out.below F5R.out B10.out) OK5.out).mono ?_
          rintro e w11 ⟨v11, rfl, ho11, hb11⟩
          obtain ⟨a11, c11, rfl⟩ := slR_hd ho11
          rw [← HM.out]
          have B11 := Lib.hid (B10.out.trans (hb11.mono B10.out.size))
          clear ho11 hb11
          refine ⟨_, rfl, B11.out, ?_⟩
          (simp only [Act.put, List.setIfInBounds_toArray, List.set_cons_zero, List.set_cons_succ])
          refine plan_len _ _ _ _ M _ (by rfl) (by rfl) (by rfl) (by rfl) (by first | (with_reducible exact Mem.ev_const _ _) | (with_reducible exact Mem.ev_zero _ _ _) | (with_reducible (apply Eq.trans (Mem.ev_tmp _ _ _)); simp only [List.getD_cons_succ, List.getD_cons_zero] <;> rfl)) (fun wx => by go_simp) ?_
          (simp only [Act.put, List.setIfInBounds_toArray, List.set_cons_zero, List.set_cons_succ])
          refine plan_bin _ _ _ _ _ _ _ _ (by rfl) (by rfl) (by rfl) (by first | (with_reducible exact Mem.ev_const _ _) | (with_reducible exact Mem.ev_zero _ _ _) | (with_reducible (apply Eq.trans (Mem.ev_tmp _ _ _)); simp only [List.getD_cons_succ, List.getD_cons_zero] <;> rfl)) (by first | (with_reducible exact Mem.ev_const _ _) | (with_reducible exact Mem.ev_zero _ _ _) | (with_reducible (apply Eq.trans (Mem.ev_tmp _ _ _)); simp only [List.getD_cons_succ, List.getD_cons_zero] <;> rfl)) (fun wx => (by go_simp : (do eqGuard .neq 3 _ _ (.int .i64 (M : Int)) (.int .i64 (M : Int)); Go.binOp .neq 3 (.int .i64 (M : Int)) (.int .i64 (M : Int)) : Sem Value).run Try.prog wx = .ok (.bool false) wx)) ?_
          (simp only [Act.put, List.setIfInBounds_toArray, List.set_cons_zero, List.set_cons_succ])
          refine plan_pick_f _ _ _ _ (by rfl) (by rfl) (by rfl) (by first | (with_reducible exact Mem.ev_const _ _) | (with_reducible exact Mem.ev_zero _ _ _) | (with_reducible (apply Eq.trans (Mem.ev_tmp _ _ _)); simp only [List.getD_cons_succ, List.getD_cons_zero] <;> rfl)) (by first | (with_reducible exact Mem.ev_const _ _) | (with_reducible exact Mem.ev_zero _ _ _) | (with_reducible (apply Eq.trans (Mem.ev_tmp _ _ _)); simp only [List.getD_cons_succ, List.getD_cons_zero] <;> rfl)) ?_
          (simp only [Act.put, List.setIfInBounds_toArray, List.set_cons_zero, List.set_cons_succ])
          refine plan_nil ?_
          have I11 := Lib.hid (I5.out.below CC.out B11.out)
          clear I3 P3 A3 AX5 NBX S7 S9
          go_wp2_with fail
          refine (CC.out.waiting w11 (CC.out.below F5R.out B11.out) OK5.out).mono ?_
          rintro e w12 ⟨v12, rfl, hs12, hb12⟩
          obtain ⟨a12, c12, rfl⟩ := slR_hd hs12
          rw [← HM.out] at hs12 ⊢
          have W12 := Lib.hid hs12
          have WP12 : Hid (WPut (fun k => G5 k ∧ k ≠ q) w12 (.slice aw M capw) s2.w) := (by have h := SW5.out; have hb := B11.out.trans (hb12.mono B11.out.size); exact h.keep hb.size fun k _ hlt => hb.block k hlt)
          have d2 : w12.cell? ⟨q, 2, none⟩ = some (.slice aw M capw) := ((B11.out.trans (hb12.mono B11.out.size)).cell (p := ⟨q, 2, none⟩) QLT.out).trans C2.out
          have I12 := Lib.hid (I11.out.below CC.out hb12)
          have m1000 : M ≤ 1000 := by rw [HM.out]; exact OK5.out.w
          clear hs12 hb12 I11 I5 SW5 ST5 SB5
          go_wp2_with fail
          go_loop [96] (fun i => ∃ j2 : Nat, j2 ≤ M ∧ i = .int .i64 j2) (fun i => M - (intOf i).toNat)
          case atStart => exact ⟨0, by omega, rfl⟩
          case round =>
            obtain ⟨j2, hj2, rfl⟩ := hrel
            by_cases hlt2 : j2 < M
            · have hlt2' : (j2 : Int) < (M : Int) := by omega
              obtain ⟨b5, o5, rfl, cw⟩ := i64s_at W12.out hlt2
              obtain ⟨b6, o6, vh, rfl, _, cn, _, _⟩ := wput_at WP12.out (j := j2) (by rw [← HM.out]; exact hlt2)
              rw [fst_getD _ _ (by rw [← HM.out]; exact hlt2)] at cw
              obtain ⟨pp, hpp⟩ : ∃ pp, pp = (s2.w.getD j2 (0, [])).1 := ⟨_, rfl⟩
              rw [← hpp] at cw cn
              clear hpp
              go_wp2
              go_round
              case rel => exact ⟨j2 + 1, by omega, by go_num⟩
              case measure => simp [intOf]; omega
            · have hge : ¬ (j2 : Int) < (M : Int) := by omega
              clear hlt2 d2
              go_wp2
              go_roundw
              case rel => exact ⟨j + 1, by omega, by go_num, s2, I12.out⟩
              case measure => simp [intOf]; omega
        · have hge : ¬ (j : Int) < (ln : Int) := by omega
          have I9 := Lib.hid hI
          clear hI hlt
          go_wp2_with fail
          refine (ALV.out _).mono ?_
          rintro e w4 ⟨rfl, hb4⟩
          have B4 := Lib.hid (I9.out.base.trans (hb4.mono I9.out.base.size))
          clear hb4
          go_wp2_with fail
          go_ret
          exact ⟨rfl, B4.out⟩
end Sha
end Go.Proofs.Ytkgpcgkikenljaa
