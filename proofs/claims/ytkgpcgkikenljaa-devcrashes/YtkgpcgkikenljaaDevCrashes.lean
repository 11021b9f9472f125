/- Layer 6, DevCrashes: behind a crash each block is one that it had, or that waited. -/
import Derived.Test.YtkgpcgkikenljaaDevCrW
import Derived.Deep.DeepCutAuto
namespace Go.Proofs.Ytkgpcgkikenljaa
namespace Sha
open Go.RowKit Mem
theorem at_app {w w' : World} {b : Nat} {C : Array Value} {t : TypeId} {v : Value} (h : At w b C t) (hk : ∀ k, k < w.heap.size → v.ownBlock ≠ some k → w'.heap[k]? = w.heap[k]?) (hne : v.ownBlock ≠ some b) : At w' b C t := At.app h hk hne
theorem rd_one {w : World} {t : TypeId} {u : Value} : Rd (w.alloc (.cells #[u] t)) (.slice (some ⟨w.heap.size, 0, none⟩) 1 1) [u] :=
  ⟨_, _, rfl, fun _ => ⟨_, rfl, fun i v hv => by rw [Addr.add_mid, Nat.zero_add, (at_new w #[u] t).cell, ← hv]; simp⟩⟩
def CrJ (R : StAcc) (b p : Nat) (w : World) (L : List Step6) (j : Nat) (wr : World) : Prop :=
  ∃ vs s, Mi p (p + 1) vs (fun k => might k (L.take j)) wr ∧ Solo R b (miE p vs) w s wr ∧ s.w = wrote (L.take j) ∧ s.b = List.replicate (4 * 256) 0 ∧ s.n = 4 ∧ Ok6 j s
theorem take_snoc6 (L : List Step6) (j : Nat) (h : j < L.length) : L.take (j + 1) = L.take j ++ [L.getD j default] := by
  rw [List.take_succ_eq_append_getElem h]
  simp [List.getD_eq_getElem?_getD, h]
/-- One write more, and what it might leave. -/
theorem crj_next {R : StAcc} (C : DevC R) {b p j n : Nat} {w w7 w8 : World} {L : List Step6} {x : Step6} {s : St6} {vs : Nat → Value} {v8 : Value} (hp : w.heap.size ≤ p) (h1 : Mi p (p + 1) vs (fun k => might k (L.take j)) w7) (h2 : Solo R b (miE p vs) w s w7)
    (hw : s.w = wrote (L.take j ++ [x])) (hb : s.b = List.replicate (4 * 256) 0) (hn : s.n = 4) (hok : Ok6 (j + 1) s) (hn4 : n < 4) (hx : n = low3 x.n ∧ L.take (j + 1) = L.take j ++ [x])
    (ho8 : OwnV w8 (p + 1) 5 v8 (u8s (might n (L.take j)) ++ [.int .u8 (B8 x.x)])) (hk8 : ∀ k, k < (w7.alloc (.cells #[.int .u8 (B8 x.x)] 5)).heap.size → (vs n).ownBlock ≠ some k → w8.heap[k]? = (w7.alloc (.cells #[.int .u8 (B8 x.x)] 5)).heap[k]?)
    (hb8 : Below (p + 1) (w7.alloc (.cells #[.int .u8 (B8 x.x)] 5)) w8) (hs8 : v8.ownBlock = (vs n).ownBlock ∨ ∃ g, v8.ownBlock = some g ∧ (w7.alloc (.cells #[.int .u8 (B8 x.x)] 5)).heap.size ≤ g) (hp8 : At w8 p (vrow vs) 58) :
    CrJ R b p w L (j + 1) (w8.setCell ⟨p, n, none⟩ v8) := by
  have hal : Below w7.heap.size w7 (w7.alloc (.cells #[.int .u8 (B8 x.x)] 5)) := (Below.refl _ _).alloc (Nat.le_refl _) _
  have hown : OwnB w8 (p + 1) v8 (might n (L.take j) ++ [x.x]) := by
    apply ownV_B
    rw [u8s_snoc]
    exact ho8
  have hkk : ∀ k, k < w7.heap.size → (vs n).ownBlock ≠ some k → w8.heap[k]? = w7.heap[k]? := fun k hk hne => (hk8 k (Nat.lt_of_lt_of_le hk hal.size) hne).trans (hal.block k hk)
  have hm := h1.set (n := n) (wy := w8.setCell ⟨p, n, none⟩ v8) hn4 (Nat.lt_succ_self p) hown hkk (fun g hg => by
    rcases hs8 with h | ⟨g', h, h'⟩
    · exact .inl (by rw [← h]; exact hg)
    · rw [h] at hg
      injection hg with hg
      exact .inr (by have := hal.size; omega)) (hp8.set n v8) (fun k hk => heap_setCell_other w8 ⟨p, n, none⟩ k v8 hk)
  have hms : (put4 (fun k => might k (L.take j)) n (might n (L.take j) ++ [x.x])) = fun k => might k (L.take (j + 1)) := by
    funext k
    rw [hx.2, might_snoc]
    by_cases e : k = n
    · subst e
      simp [put4, hx.1]
    · have e2 : ¬ low3 x.n = k := by rw [← hx.1]; exact fun h => e h.symm
      simp [put4, e, e2]
  rw [hms] at hm
  have hsz : (w8.setCell ⟨p, n, none⟩ v8).heap.size = w8.heap.size := by simp
  have h78 : w7.heap.size ≤ w8.heap.size := Nat.le_trans hal.size hb8.size
  refine ⟨_, s, hm, h2.edit C (by rw [hsz]; exact h78) (fun k hk hne => ?_) ?_ _ (fun k hk => ?_), by rw [hw, hx.2], hb, hn, hok⟩
  · rw [heap_setCell_other w8 ⟨p, n, none⟩ k v8 (fun e => hne (.inl e))]
    exact hkk k hk (fun e => hne (.inr ⟨n, hn4, e⟩))
  · exact (((h2.b.trans (hal.mono h2.b.size)).trans (hb8.mono (by omega))).setCell hp v8)
  · rcases hk with rfl | ⟨i, hi, hi2⟩
    · exact .inl (.inl rfl)
    · by_cases e : i = n
      · subst e
        simp only [put4, if_true] at hi2
        rcases hs8 with h | ⟨g', h, h'⟩
        · exact .inl (.inr ⟨i, hi, by rw [← h]; exact hi2⟩)
        · rw [h] at hi2
          injection hi2 with hi2
          subst hi2
          refine .inr ⟨by have := hal.size; omega, ?_⟩
          rw [hsz]
          exact (hown.lt g' h).2
      · simp only [put4, if_neg e] at hi2
        exact .inl (.inr ⟨i, hi, hi2⟩)
theorem same_rep (y x : BitVec 8) : sameB (List.replicate 256 y) (List.replicate 256 x) = decide (y = x) := by
  unfold sameB
  rw [Bool.eq_iff_iff, beq_iff_eq, decide_eq_true_iff]
  constructor
  · intro h
    exact (List.replicate_inj.1 h).2.resolve_left (by decide)
  · rintro rfl
    rfl
theorem take_mem9 (y : BitVec 8) (l : List (BitVec 8)) (j : Nat) (h : j < l.length) : decide (y ∈ l.take (j + 1)) = (decide (y ∈ l.take j) || decide (y = l.getD j 0)) := by
  rw [← Bool.decide_or, decide_eq_decide, List.take_succ_eq_append_getElem h, List.mem_append, List.mem_singleton]
  simp [List.getD_eq_getElem?_getD, h]
set_option maxRecDepth 100000 in
set_option maxHeartbeats 8000000 in
theorem crashes_law {R : StAcc} (C : DevC R) (l : List Step6) (keep : Nat) (torn parts : Int) (vl : Value) (w : World) (hl : SlS6 w vl l) (ll : l.length ≤ 9223372036854775807) (hs : ∀ x ∈ l, goodS6 x) (hkp : keep < 18446744073709551616) (ht : -9223372036854775808 ≤ torn ∧ torn ≤ 9223372036854775807) (hpt : -9223372036854775808 ≤ parts ∧ parts ≤ 9223372036854775807) :
    Calls Try.prog 5 #[vl, .int .u64 (keep : Int), .agg #[.int .i64 torn, .int .i64 parts]] w fun e w' => e = .returned (.bool true) ∧ Below w.heap.size w w' := by
  have CC := Lib.hid C
  have ALV := Lib.hid (fun wx => alive6_any C wx)
  have NG := Lib.hid (fun wx => C.new 4 wx (by decide) (by decide))
  have SH := Lib.hid (fun wx => short6_any l vl wx); have HL := Lib.hid hl; have HS := Lib.hid hs; have LL := Lib.hid ll; have KP := Lib.hid hkp; have HT := Lib.hid ht; have HPT := Lib.hid hpt
  clear C hl ll hs hkp ht hpt
  have b0 : Below w.heap.size w (w.alloc (.cells #[.int .i64 torn, .int .i64 parts] 57)) := (Below.refl _ _).alloc (Nat.le_refl _) _
  have B0 := Lib.hid b0
  clear b0
  go_enter Try.func5, Try.ntmps5
  go_wp2_with fail
  go_quiet (fail)
  have B1 : Hid (Below w.heap.size w ((w.alloc (.cells #[.int .i64 torn, .int .i64 parts] 57)).drewN nq)) := Below.drewN' B0.out
  clear B0
  generalize (w.alloc (.cells #[.int .i64 torn, .int .i64 parts] 57)).drewN nq = w1 at *
  go_wp2_with fail
  refine (NG.out w1).mono ?_
  rintro e w2 ⟨b, F, rfl, hR, hF, hb2⟩
  have hRl := CC.out.lt hR
  have b12 := B1.out.size
  have a3 : At (w2.alloc (.cells (vrow fun _ => .slice none 0 0) 58)) w2.heap.size (vrow fun _ => .slice none 0 0) 58 := at_new w2 _ _
  have b3 : Below w2.heap.size w2 (w2.alloc (.cells (vrow fun _ => .slice none 0 0) 58)) := (Below.refl _ _).alloc (Nat.le_refl _) _
  have b23 := hb2.size
  have i0 : CrI R b w2.heap.size w 0 (w2.alloc (.cells (vrow fun _ => .slice none 0 0) 58)) := by
    refine ⟨fun _ => .slice none 0 0, fun _ => [], ⟨a3, fun k _ => OwnB.nil _ _, fun i j _ _ _ g hg => by simp [Value.ownBlock] at hg⟩, ⟨⟨F, CC.out.below hR b3, fun k hk => ⟨Nat.le_trans b12 (hF k hk), ?_⟩⟩, ?_, (B1.out.trans (hb2.mono b12)).trans (b3.mono (Nat.le_trans b12 b23))⟩, fun k hk => absurd hk (by omega), fun _ _ _ => rfl⟩
    · rintro (rfl | ⟨i, _, hi⟩)
      · have := hRl _ hk; omega
      · simp [Value.ownBlock] at hi
    · rintro k (rfl | ⟨i, _, hi⟩)
      · simp
      · simp [Value.ownBlock] at hi
  have I0 := Lib.hid i0
  have HBP : Hid (w.heap.size ≤ w2.heap.size) := Nat.le_trans b12 b23
  clear hR hF hb2 hRl b12 a3 b3 b23 i0 NG
  go_wp2_with fail
  obtain ⟨p, hpe⟩ : ∃ p, p = w2.heap.size := ⟨_, rfl⟩
  rw [show (#[.slice none 0 0, .slice none 0 0, .slice none 0 0, .slice none 0 0] : Array Value) = vrow fun _ => .slice none 0 0 from rfl]
  rw [← hpe] at I0 HBP ⊢
  generalize w2.alloc (.cells (vrow fun _ => .slice none 0 0) 58) = w3 at *
  clear hpe
  go_loopw [35] (fun i wr => ∃ j : Nat, j ≤ 4 ∧ i = .int .i64 j ∧ CrI R b p w j wr) (fun i _ => 4 - (intOf i).toNat)
  case atStart => exact ⟨0, by omega, rfl, I0.out⟩
  case round =>
    clear I0
    obtain ⟨j, hj, rfl, hI⟩ := hrel
    by_cases hlt : j < 4
    · have hlt' : (j : Int) < 4 := by omega
      have IJ := Lib.hid hI
      obtain ⟨vs, ms, m1, s1, r1, r2⟩ := hI
      have M1 := Lib.hid m1; have S1 := Lib.hid s1; have R1 := Lib.hid r1; have R2 := Lib.hid r2; have P1 := Lib.hid (m1.row.below ((Below.refl wr.heap.size wr).alloc (Nat.le_refl _) (.cells #[.int .u8 0] 5)) m1.row.lt)
      have HJ : Hid (j < 4) := hlt
      clear m1 s1 r1 r2
      go_wp2_with (refine Mem.wpList_store_one (by rfl) 27 _ _ (by rfl) (by rfl) p j (.slice (some ⟨wr.heap.size, 0, none⟩) 1 1) (by rfl) (by rfl) (by rfl) infoBs _ 58 P1.out (by simp [vrow]; exact HJ.out) ?_; intro w5 ha ho hk; have J5 := Lib.hid (cri_next CC.out HBP.out IJ.out HJ.out M1.out S1.out R1.out R2.out ha ho hk); clear ha ho hk)
      go_roundw
      case rel => exact ⟨j + 1, by omega, by go_num, J5.out⟩
      case measure => simp [intOf]; omega
    · have hj4 : j = 4 := by omega
      subst hj4
      obtain ⟨vs, ms, m1, s1, r1, _⟩ := hI
      have hms : Mi p (p + 1) vs (fun k => might k (([] : List Step6).take 0)) wr := ⟨m1.row, fun k hk => by have h := m1.own k hk; rw [r1 k hk] at h; exact h, m1.ne⟩
      have J0 : Hid (CrJ R b p w (l.take 60) 0 wr) := ⟨vs, stNew 4, by simpa using hms, s1, by simp [wrote]; rfl, rfl, rfl, ok_new 4 (by decide) (by decide)⟩
      have BW := Lib.hid s1.b
      clear m1 s1 r1 hms hlt hj
      go_wp2_with fail
      refine (SH.out _ (HL.out.below BW.out) LL.out).mono ?_
      rintro e w' ⟨⟨v, rfl, hst0⟩, rfl⟩
      have hst := hst0 w HL.out
      clear hst0
      have IN := Lib.hid (fun j (hj : j < (l.take 60).length) => (HS.out ((l.take 60).getD j default) (by rw [List.getD_eq_getElem?_getD, List.getElem?_eq_getElem hj]; exact List.mem_of_mem_take (List.getElem_mem hj)) : goodS6 ((l.take 60).getD j default)))
      have h60 : (l.take 60).length ≤ 60 := by simp; omega
      obtain ⟨L, hL⟩ : ∃ L, L = l.take 60 := ⟨_, rfl⟩
      rw [← hL] at hst IN h60 J0
      have ST := Lib.hid hst
      obtain ⟨al, capl, rfl, _, _⟩ := hst
      obtain ⟨ln, hn⟩ : ∃ n, n = L.length := ⟨_, rfl⟩
      rw [← hn] at ST IN h60 ⊢
      have LN := Lib.hid hn
      clear hn hL SH HL HS LL BW
      go_wp2_with fail
      go_loopw [46] (fun i wr => ∃ j : Nat, j ≤ ln ∧ i = .int .i64 j ∧ CrJ R b p w L j wr) (fun i _ => ln - (intOf i).toNat)
      case atStart => exact ⟨0, by omega, rfl, J0.out⟩
      case round =>
        clear J0
        obtain ⟨j, hj, rfl, hI⟩ := hrel
        by_cases hlt : j < ln
        · have hlt' : (j : Int) < (ln : Int) := by omega
          obtain ⟨vs, s, m1, s1, sw1, sb1, sn1, ok1⟩ := hI
          obtain ⟨b1, o1, ha1, cx⟩ := slS6_at (i := j) (ST.out.below s1.b) (by rw [← LN.out]; exact hlt)
          have hin := IN.out j hlt
          have hsn := take_snoc6 L j (by rw [← LN.out]; exact hlt)
          obtain ⟨x, hx9⟩ : ∃ x, x = L.getD j default := ⟨_, rfl⟩
          rw [← hx9] at cx hin hsn
          have c0 : wr.cell? ⟨b1, o1 + j * 5, none⟩ = some (.int .u8 (B8 x.k)) := by rw [show o1 + j * 5 = o1 + (5 * j + 0) by omega]; exact cx 0 (by decide)
          have c1 : wr.cell? ⟨b1, o1 + j * 5 + 1, none⟩ = some (.int .i64 x.n) := by rw [show o1 + j * 5 + 1 = o1 + (5 * j + 1) by omega]; exact cx 1 (by decide)
          have c2 : wr.cell? ⟨b1, o1 + j * 5 + 2, none⟩ = some (.int .i64 x.a) := by rw [show o1 + j * 5 + 2 = o1 + (5 * j + 2) by omega]; exact cx 2 (by decide)
          have c3 : wr.cell? ⟨b1, o1 + j * 5 + 3, none⟩ = some (.int .u8 (B8 x.x)) := by rw [show o1 + j * 5 + 3 = o1 + (5 * j + 3) by omega]; exact cx 3 (by decide)
          have c4 : wr.cell? ⟨b1, o1 + j * 5 + 4, none⟩ = some (.int .u64 (x.q : Int)) := by rw [show o1 + j * 5 + 4 = o1 + (5 * j + 4) by omega]; exact cx 4 (by decide)
          subst ha1
          have b3 : Below wr.heap.size wr (wr.alloc (.cells (stepC6 x) 39)) := (Below.refl _ _).alloc (Nat.le_refl _) _
          obtain ⟨n, hnn⟩ : ∃ n, n = low3 x.n := ⟨_, rfl⟩
          have hn4 : n < 4 := by rw [hnn]; exact low3_lt _
          have han := fun (t t2 : TypeId) (xx yy : Operand) wx => o_and3 (P := Try.prog) t t2 xx yy x.n wx
          rw [← hnn] at han
          have hml : (might n (L.take j)).length ≤ 100 := by
            unfold might
            rw [List.length_cons, List.length_map]
            have := List.length_filter_le (fun x : Step6 => decide (low3 x.n = n)) (L.take j)
            have h2 : (L.take j).length ≤ j := by rw [List.length_take]; omega
            omega
          have nbx : wr.heap.size ≠ p := by have := m1.row.lt; omega
          have okl := ok_write ok1 n (List.replicate 256 x.x) (by rw [sn1]; exact hn4) List.length_replicate
          have A4 := Lib.hid (at_new wr (stepC6 x) 39); have M4 := Lib.hid (m1.below b3); have S4 := Lib.hid (s1.add CC.out b3 (fun k => miE p vs k ∨ k = wr.heap.size) (fun k hk => hk.imp id (fun h => by subst h; exact ⟨Nat.le_refl _, by simp⟩)))
          have OKJ := Lib.hid ok1; have SN := Lib.hid sn1; have N4 := Lib.hid hn4; have AN := Lib.hid han; have ML := Lib.hid hml; have NBX := Lib.hid nbx
          have SW : Hid ((stWrite s n (List.replicate 256 x.x)).w = wrote (L.take j ++ [x])) := (by show s.w ++ [(n, List.replicate 256 x.x)] = _; rw [sw1, hnn]; simp [wrote, -List.reduceReplicate]); have SB : Hid ((stWrite s n (List.replicate 256 x.x)).b = List.replicate (4 * 256) 0) := sb1; have SNN : Hid ((stWrite s n (List.replicate 256 x.x)).n = 4) := sn1; have OKS := Lib.hid okl; have LJ := Lib.hid (And.intro hnn hsn)
          clear cx hin hx9 b3 m1 s1 sw1 sb1 sn1 ok1 hn4 han hml nbx okl hnn hsn
          go_wp2_with (refine wpList_store_new (by rfl) 39 _ _ (by rfl) (by rfl) (stepC6 x) _ _ (by rfl) (by rfl) (by exact infoStep6) (by rfl) (stepC6_one x) ?_; clear c0 c1 c2 c3 c4; generalize wr.alloc (.cells (stepC6 x) 39) = w4 at *; generalize wr.heap.size = bx at *)
          replace S4 := Lib.hid (S4.out.below CC.out (Below.refl w4.heap.size w4).drew)
          replace M4 := Lib.hid (M4.out.below (Below.refl w4.heap.size w4).drew)
          have A44 : Hid (At w4.drew bx (stepC6 x) 39) := A4.out.drew; clear A4; have A4 := A44; clear A44
          refine wp_region_plan_in (fun w' => At w' bx (stepC6 x) 39) (.take 0 (.take 1 (.take 2 (.take 3 (.take 4 (.take 5 (.sole 6 (.sole 7 (.take 8 .done))))))))) (by kernel_rfl) (by kernel_rfl) (by kernel_rfl) A4.out ?_
          (first | (refine plan_move _ _ (by rfl) (by rfl) (.inl (by rfl)) (by first | (with_reducible exact Mem.ev_const _ _) | (with_reducible exact Mem.ev_zero _ _ _) | (with_reducible (apply Eq.trans (Mem.ev_tmp _ _ _)); simp only [List.getD_cons_succ, List.getD_cons_zero] <;> rfl)) ?_) | (refine plan_move _ _ (by rfl) (by rfl) (.inr (by rfl)) (by first | (with_reducible exact Mem.ev_const _ _) | (with_reducible exact Mem.ev_zero _ _ _) | (with_reducible (apply Eq.trans (Mem.ev_tmp _ _ _)); simp only [List.getD_cons_succ, List.getD_cons_zero] <;> rfl)) ?_) | (refine plan_pick_t _ _ _ _ (by rfl) (by rfl) (by rfl) (by first | (with_reducible exact Mem.ev_const _ _) | (with_reducible exact Mem.ev_zero _ _ _) | (with_reducible (apply Eq.trans (Mem.ev_tmp _ _ _)); simp only [List.getD_cons_succ, List.getD_cons_zero] <;> rfl)) (by first | (with_reducible exact Mem.ev_const _ _) | (with_reducible exact Mem.ev_zero _ _ _) | (with_reducible (apply Eq.trans (Mem.ev_tmp _ _ _)); simp only [List.getD_cons_succ, List.getD_cons_zero] <;> rfl)) ?_) | (refine plan_pick_f _ _ _ _ (by rfl) (by rfl) (by rfl) (by first | (with_reducible exact Mem.ev_const _ _) | (with_reducible exact Mem.ev_zero _ _ _) | (with_reducible (apply Eq.trans (Mem.ev_tmp _ _ _)); simp only [List.getD_cons_succ, List.getD_cons_zero] <;> rfl)) (by first | (with_reducible exact Mem.ev_const _ _) | (with_reducible exact Mem.ev_zero _ _ _) | (with_reducible (apply Eq.trans (Mem.ev_tmp _ _ _)); simp only [List.getD_cons_succ, List.getD_cons_zero] <;> rfl)) ?_))
          (simp only [Act.put, List.setIfInBounds_toArray, List.set_cons_zero, List.set_cons_succ])
          refine plan_field 39 _ 1 bx 0 ⟨bx, 1, none⟩ (by rfl) (by rfl) (by rfl) (by first | (with_reducible exact Mem.ev_const _ _) | (with_reducible exact Mem.ev_zero _ _ _) | (with_reducible (apply Eq.trans (Mem.ev_tmp _ _ _)); simp only [List.getD_cons_succ, List.getD_cons_zero] <;> rfl)) (fun wx => by go_simp) ?_
          (simp only [Act.put, List.setIfInBounds_toArray, List.set_cons_zero, List.set_cons_succ])
          refine plan_cell 3 _ _ (.int .i64 x.n) _ (by rfl) (by rfl) (by rfl) (by first | (with_reducible exact Mem.ev_const _ _) | (with_reducible exact Mem.ev_zero _ _ _) | (with_reducible (apply Eq.trans (Mem.ev_tmp _ _ _)); simp only [List.getD_cons_succ, List.getD_cons_zero] <;> rfl)) (fun w' hw' => hw'.cell' 1 rfl) Try.underlying3 (by rfl) ?_
          (simp only [Act.put, List.setIfInBounds_toArray, List.set_cons_zero, List.set_cons_succ])
          refine plan_bin .and _ _ _ _ _ _ (.int .i64 (n : Int)) (by rfl) (by rfl) (by rfl) (by first | (with_reducible exact Mem.ev_const _ _) | (with_reducible exact Mem.ev_zero _ _ _) | (with_reducible (apply Eq.trans (Mem.ev_tmp _ _ _)); simp only [List.getD_cons_succ, List.getD_cons_zero] <;> rfl)) (by first | (with_reducible exact Mem.ev_const _ _) | (with_reducible exact Mem.ev_zero _ _ _) | (with_reducible (apply Eq.trans (Mem.ev_tmp _ _ _)); simp only [List.getD_cons_succ, List.getD_cons_zero] <;> rfl)) (fun wx => AN.out _ _ _ _ wx) ?_
          (simp only [Act.put, List.setIfInBounds_toArray, List.set_cons_zero, List.set_cons_succ])
          refine plan_field 39 _ 3 bx 0 ⟨bx, 3, none⟩ (by rfl) (by rfl) (by rfl) (by first | (with_reducible exact Mem.ev_const _ _) | (with_reducible exact Mem.ev_zero _ _ _) | (with_reducible (apply Eq.trans (Mem.ev_tmp _ _ _)); simp only [List.getD_cons_succ, List.getD_cons_zero] <;> rfl)) (fun wx => by go_simp) ?_
          (simp only [Act.put, List.setIfInBounds_toArray, List.set_cons_zero, List.set_cons_succ])
          refine plan_cell 5 _ _ (.int .u8 (B8 x.x)) _ (by rfl) (by rfl) (by rfl) (by first | (with_reducible exact Mem.ev_const _ _) | (with_reducible exact Mem.ev_zero _ _ _) | (with_reducible (apply Eq.trans (Mem.ev_tmp _ _ _)); simp only [List.getD_cons_succ, List.getD_cons_zero] <;> rfl)) (fun w' hw' => hw'.cell' 3 rfl) Try.underlying5 (by rfl) ?_
          (simp only [Act.put, List.setIfInBounds_toArray, List.set_cons_zero, List.set_cons_succ])
          refine plan_call 21 _ _ _ (by kernel_rfl) (by rfl) (by rfl) (by rfl) (by first | exact Mem.ev_none _ | (simp only [List.map_toArray, List.map_cons, List.map_nil, Mem.ev_tmp, List.getD_cons_succ, List.getD_cons_zero] <;> rfl)) ?_
          refine (block_any x.x _).mono ?_
          rintro e w5 ⟨g, rfl, ha, hg, hb5⟩
          have S5 := Lib.hid (S4.out.below CC.out hb5); have A5 := Lib.hid (A4.out.below hb5 A4.out.lt); have M5 := Lib.hid (M4.out.below hb5); have G5 := Lib.hid (at_sl ha rfl)
          rw [List.length_replicate] at G5 ⊢
          clear ha hg hb5 S4 A4 M4
          refine ⟨_, rfl, A5.out, ?_⟩
          (simp only [Act.put, List.setIfInBounds_toArray, List.set_cons_zero, List.set_cons_succ])
          refine plan_call 20 _ _ _ (by kernel_rfl) (by rfl) (by rfl) (by rfl) (by first | exact Mem.ev_none _ | (simp only [List.map_toArray, List.map_cons, List.map_nil, Mem.ev_tmp, List.getD_cons_succ, List.getD_cons_zero] <;> rfl)) ?_
          refine (Solo.call S5.out (fun F h => CC.out.write n (List.replicate 256 x.x) _ w5 h (OKJ.out.mono (by omega)) G5.out (by rw [SN.out]; exact N4.out) List.length_replicate)).mono ?_
          rintro e w6 ⟨rfl, hs6, hk6⟩
          have S6 := Lib.hid hs6; have A6 := Lib.hid (A5.out.kept hk6 (.inr rfl)); have M6 := Lib.hid (M5.out.kept hk6 (fun k hk => .inl hk))
          clear hs6 hk6 S5 A5 M5 G5
          refine ⟨_, rfl, A6.out, ?_⟩
          (simp only [Act.put, List.setIfInBounds_toArray, List.set_cons_zero, List.set_cons_succ])
          refine plan_bin _ _ _ _ _ _ _ _ (by rfl) (by rfl) (by rfl) (by first | (with_reducible exact Mem.ev_const _ _) | (with_reducible exact Mem.ev_zero _ _ _) | (with_reducible (apply Eq.trans (Mem.ev_tmp _ _ _)); simp only [List.getD_cons_succ, List.getD_cons_zero] <;> rfl)) (by first | (with_reducible exact Mem.ev_const _ _) | (with_reducible exact Mem.ev_zero _ _ _) | (with_reducible (apply Eq.trans (Mem.ev_tmp _ _ _)); simp only [List.getD_cons_succ, List.getD_cons_zero] <;> rfl)) (fun wx => (by go_simp : (do eqGuard .neq 24 _ _ (.int .i64 0) (.int .i64 0); Go.binOp .neq 24 (.int .i64 0) (.int .i64 0) : Sem Value).run Try.prog wx = .ok (.bool false) wx)) ?_
          (simp only [Act.put, List.setIfInBounds_toArray, List.set_cons_zero, List.set_cons_succ])
          refine plan_nil ?_
          clear AN
          have AN := Lib.hid (fun (t t2 : TypeId) (xx yy : Operand) wx => (by rw [LJ.out.1]; exact o_and3 (P := Try.prog) t t2 xx yy x.n wx : (do eqGuard .and t xx yy (.int .i64 x.n) (.int .i64 3); binOp .and t2 (.int .i64 x.n) (.int .i64 3) : Sem Value).run Try.prog wx = .ok (.int .i64 (n : Int)) wx))
          go_wp2_with fail
          refine wp_region_plan_in (fun w' => At w' bx (stepC6 x) 39) (.take 0 (.take 1 (.take 2 (.take 3 (.take 4 (.take 5 (.take 6 (.take 8 (.take 9 (.two 7 10 (.sole 10 (.sole 11 (.take 12 (.sole 13 .done)))) (.sole 7 (.sole 11 (.take 12 (.sole 13 .done)))))))))))))) (by kernel_rfl) (by kernel_rfl) (by kernel_rfl) A6.out.drew ?_
          have A7 : Hid (At w6.drew bx (stepC6 x) 39) := A6.out.drew
          have M7 := Lib.hid (M6.out.below (Below.refl _ _).drew)
          have S7 := Lib.hid ((S6.out.less (miE p vs) (fun k hk => .inl hk)).below CC.out (Below.refl _ _).drew)
          clear A6 M6 S6
          generalize w6.drew = w7 at *
          have b79 : Below w7.heap.size w7 (w7.alloc (.cells #[Value.int .u8 (B8 x.x)] 5)) := (Below.refl _ _).alloc (Nat.le_refl _) _
          have A9 := Lib.hid (A7.out.below b79 A7.out.lt)
          have P9 := Lib.hid (M7.out.row.below b79 M7.out.row.lt)
          have O9 := Lib.hid ((M7.out.own n N4.out).below b79)
          clear b79
          refine plan_field 39 _ 1 bx 0 ⟨bx, 1, none⟩ (by rfl) (by rfl) (by rfl) (by first | (with_reducible exact Mem.ev_const _ _) | (with_reducible exact Mem.ev_zero _ _ _) | (with_reducible (apply Eq.trans (Mem.ev_tmp _ _ _)); simp only [List.getD_cons_succ, List.getD_cons_zero] <;> rfl)) (fun wx => by go_simp) ?_
          (simp only [Act.put, List.setIfInBounds_toArray, List.set_cons_zero, List.set_cons_succ])
          refine plan_cell 3 _ _ (.int .i64 x.n) _ (by rfl) (by rfl) (by rfl) (by first | (with_reducible exact Mem.ev_const _ _) | (with_reducible exact Mem.ev_zero _ _ _) | (with_reducible (apply Eq.trans (Mem.ev_tmp _ _ _)); simp only [List.getD_cons_succ, List.getD_cons_zero] <;> rfl)) (fun w' hw' => hw'.cell' 1 rfl) Try.underlying3 (by rfl) ?_
          (simp only [Act.put, List.setIfInBounds_toArray, List.set_cons_zero, List.set_cons_succ])
          refine plan_bin .and _ _ _ _ _ _ (.int .i64 (n : Int)) (by rfl) (by rfl) (by rfl) (by first | (with_reducible exact Mem.ev_const _ _) | (with_reducible exact Mem.ev_zero _ _ _) | (with_reducible (apply Eq.trans (Mem.ev_tmp _ _ _)); simp only [List.getD_cons_succ, List.getD_cons_zero] <;> rfl)) (by first | (with_reducible exact Mem.ev_const _ _) | (with_reducible exact Mem.ev_zero _ _ _) | (with_reducible (apply Eq.trans (Mem.ev_tmp _ _ _)); simp only [List.getD_cons_succ, List.getD_cons_zero] <;> rfl)) (fun wx => AN.out _ _ _ _ wx) ?_
          (simp only [Act.put, List.setIfInBounds_toArray, List.set_cons_zero, List.set_cons_succ])
          refine plan_field 39 _ 1 bx 0 ⟨bx, 1, none⟩ (by rfl) (by rfl) (by rfl) (by first | (with_reducible exact Mem.ev_const _ _) | (with_reducible exact Mem.ev_zero _ _ _) | (with_reducible (apply Eq.trans (Mem.ev_tmp _ _ _)); simp only [List.getD_cons_succ, List.getD_cons_zero] <;> rfl)) (fun wx => by go_simp) ?_
          (simp only [Act.put, List.setIfInBounds_toArray, List.set_cons_zero, List.set_cons_succ])
          refine plan_cell 3 _ _ (.int .i64 x.n) _ (by rfl) (by rfl) (by rfl) (by first | (with_reducible exact Mem.ev_const _ _) | (with_reducible exact Mem.ev_zero _ _ _) | (with_reducible (apply Eq.trans (Mem.ev_tmp _ _ _)); simp only [List.getD_cons_succ, List.getD_cons_zero] <;> rfl)) (fun w' hw' => hw'.cell' 1 rfl) Try.underlying3 (by rfl) ?_
          (simp only [Act.put, List.setIfInBounds_toArray, List.set_cons_zero, List.set_cons_succ])
          refine plan_bin .and _ _ _ _ _ _ (.int .i64 (n : Int)) (by rfl) (by rfl) (by rfl) (by first | (with_reducible exact Mem.ev_const _ _) | (with_reducible exact Mem.ev_zero _ _ _) | (with_reducible (apply Eq.trans (Mem.ev_tmp _ _ _)); simp only [List.getD_cons_succ, List.getD_cons_zero] <;> rfl)) (by first | (with_reducible exact Mem.ev_const _ _) | (with_reducible exact Mem.ev_zero _ _ _) | (with_reducible (apply Eq.trans (Mem.ev_tmp _ _ _)); simp only [List.getD_cons_succ, List.getD_cons_zero] <;> rfl)) (fun wx => AN.out _ _ _ _ wx) ?_
          (simp only [Act.put, List.setIfInBounds_toArray, List.set_cons_zero, List.set_cons_succ])
          refine plan_index_arr1 58 27 4 _ _ p n (by rfl) (by rfl) (by rfl) (by first | (with_reducible exact Mem.ev_const _ _) | (with_reducible exact Mem.ev_zero _ _ _) | (with_reducible (apply Eq.trans (Mem.ev_tmp _ _ _)); simp only [List.getD_cons_succ, List.getD_cons_zero] <;> rfl)) (by first | (with_reducible exact Mem.ev_const _ _) | (with_reducible exact Mem.ev_zero _ _ _) | (with_reducible (apply Eq.trans (Mem.ev_tmp _ _ _)); simp only [List.getD_cons_succ, List.getD_cons_zero] <;> rfl)) N4.out Try.underlying58 (by kernel_rfl) ?_
          (simp only [Act.put, List.setIfInBounds_toArray, List.set_cons_zero, List.set_cons_succ])
          refine plan_field 39 _ 3 bx 0 ⟨bx, 3, none⟩ (by rfl) (by rfl) (by rfl) (by first | (with_reducible exact Mem.ev_const _ _) | (with_reducible exact Mem.ev_zero _ _ _) | (with_reducible (apply Eq.trans (Mem.ev_tmp _ _ _)); simp only [List.getD_cons_succ, List.getD_cons_zero] <;> rfl)) (fun wx => by go_simp) ?_
          (simp only [Act.put, List.setIfInBounds_toArray, List.set_cons_zero, List.set_cons_succ])
          refine plan_cell 5 _ _ (.int .u8 (B8 x.x)) _ (by rfl) (by rfl) (by rfl) (by first | (with_reducible exact Mem.ev_const _ _) | (with_reducible exact Mem.ev_zero _ _ _) | (with_reducible (apply Eq.trans (Mem.ev_tmp _ _ _)); simp only [List.getD_cons_succ, List.getD_cons_zero] <;> rfl)) (fun w' hw' => hw'.cell' 3 rfl) Try.underlying5 (by rfl) ?_
          (simp only [Act.put, List.setIfInBounds_toArray, List.set_cons_zero, List.set_cons_succ])
          refine plan_two ?_ ?_
          · refine plan_sole_cell 27 _ _ (vs n) _ (by rfl) (by rfl) (by rfl) (by first | (with_reducible exact Mem.ev_const _ _) | (with_reducible exact Mem.ev_zero _ _ _) | (with_reducible (apply Eq.trans (Mem.ev_tmp _ _ _)); simp only [List.getD_cons_succ, List.getD_cons_zero] <;> rfl)) (M7.out.row.cell' n (vrow_at vs n N4.out)) Try.underlying27 (by rfl) (A7.out) ?_
            (simp only [Act.put, List.setIfInBounds_toArray, List.set_cons_zero, List.set_cons_succ])
            refine plan_slice 27 5 1 _ #[Value.int .u8 (B8 x.x)] (by rfl) (by rfl) (by rfl) Try.underlying27 (by kernel_rfl) (A9.out) ?_
            (simp only [Act.put, List.setIfInBounds_toArray, List.set_cons_zero, List.set_cons_succ])
            refine plan_append_rd _ _ 27 (by rfl) (by rfl) (by rfl) (.slice (some ⟨w7.heap.size, 0, none⟩) 1 1) [Value.int .u8 (B8 x.x)] (.int .u8 0) 1 elemB8 (by rfl) (by first | (with_reducible exact Mem.ev_const _ _) | (with_reducible exact Mem.ev_zero _ _ _) | (with_reducible (apply Eq.trans (Mem.ev_tmp _ _ _)); simp only [List.getD_cons_succ, List.getD_cons_zero] <;> rfl)) (ownB_V (O9.out)) (by first | (with_reducible exact Mem.ev_const _ _) | (with_reducible exact Mem.ev_zero _ _ _) | (with_reducible (apply Eq.trans (Mem.ev_tmp _ _ _)); simp only [List.getD_cons_succ, List.getD_cons_zero] <;> rfl)) (by exact rd_one) (by simp [Value.oneCell']) (by rw [u8s_length]; have := ML.out; simp; omega) (by rw [u8s_length]; have := ML.out; simp; omega) (by have := M7.out.row.lt; simp; omega) ?_
            intro v8 w8 ho8 hk8 hb8 hs8
            have A8 : Hid (At w8 bx (stepC6 x) 39) := at_app A9.out hk8 (O9.out.ne_at A9.out (by decide))
            have P8 : Hid (At w8 p (vrow vs) 58) := at_app P9.out hk8 (O9.out.ne_at P9.out (by decide))
            obtain ⟨a8, c8, rfl⟩ : ∃ a c, v8 = .slice a (u8s (might n (L.take j)) ++ [Value.int .u8 (B8 x.x)]).length c := (by obtain ⟨a, c, e, _⟩ := ho8.open; exact ⟨a, c, e⟩)
            refine ⟨A8.out, ?_⟩
            (simp only [Act.put, List.setIfInBounds_toArray, List.set_cons_zero, List.set_cons_succ])
            refine plan_index_arr1 58 27 4 _ _ p n (by rfl) (by rfl) (by rfl) (by first | (with_reducible exact Mem.ev_const _ _) | (with_reducible exact Mem.ev_zero _ _ _) | (with_reducible (apply Eq.trans (Mem.ev_tmp _ _ _)); simp only [List.getD_cons_succ, List.getD_cons_zero] <;> rfl)) (by first | (with_reducible exact Mem.ev_const _ _) | (with_reducible exact Mem.ev_zero _ _ _) | (with_reducible (apply Eq.trans (Mem.ev_tmp _ _ _)); simp only [List.getD_cons_succ, List.getD_cons_zero] <;> rfl)) N4.out Try.underlying58 (by kernel_rfl) ?_
            (simp only [Act.put, List.setIfInBounds_toArray, List.set_cons_zero, List.set_cons_succ])
            refine plan_store_one 27 _ _ p n (.slice a8 (u8s (might n (L.take j)) ++ [Value.int .u8 (B8 x.x)]).length c8) _ 58 (by rfl) (by rfl) (by rfl) (by rfl) (by first | (with_reducible exact Mem.ev_const _ _) | (with_reducible exact Mem.ev_zero _ _ _) | (with_reducible (apply Eq.trans (Mem.ev_tmp _ _ _)); simp only [List.getD_cons_succ, List.getD_cons_zero] <;> rfl)) (by first | (with_reducible exact Mem.ev_const _ _) | (with_reducible exact Mem.ev_zero _ _ _) | (with_reducible (apply Eq.trans (Mem.ev_tmp _ _ _)); simp only [List.getD_cons_succ, List.getD_cons_zero] <;> rfl)) (by rfl) infoBs P8.out N4.out (At.set_other A8.out _ _ (by show bx ≠ p; exact NBX.out)) ?_
            refine plan_nil ?_
            have J8 := Lib.hid (crj_next CC.out HBP.out M7.out S7.out SW.out SB.out SNN.out OKS.out N4.out LJ.out ho8 hk8 hb8 hs8 P8.out)
            generalize w8.setCell ⟨p, n, none⟩ (.slice a8 (u8s (might n (L.take j)) ++ [Value.int .u8 (B8 x.x)]).length c8) = w9 at *
            clear hk8 hb8 hs8 ho8 A8 P8
            go_wp2_with fail
            go_roundw
            case rel => exact ⟨j + 1, by omega, by go_num, J8.out⟩
            case measure => simp [intOf]; omega
          · refine plan_slice 27 5 1 _ #[Value.int .u8 (B8 x.x)] (by rfl) (by rfl) (by rfl) Try.underlying27 (by kernel_rfl) (A9.out) ?_
            (simp only [Act.put, List.setIfInBounds_toArray, List.set_cons_zero, List.set_cons_succ])
            refine plan_sole_cell 27 _ _ (vs n) _ (by rfl) (by rfl) (by rfl) (by first | (with_reducible exact Mem.ev_const _ _) | (with_reducible exact Mem.ev_zero _ _ _) | (with_reducible (apply Eq.trans (Mem.ev_tmp _ _ _)); simp only [List.getD_cons_succ, List.getD_cons_zero] <;> rfl)) (P9.out.cell' n (vrow_at vs n N4.out)) Try.underlying27 (by rfl) (A9.out) ?_
            (simp only [Act.put, List.setIfInBounds_toArray, List.set_cons_zero, List.set_cons_succ])
            refine plan_append_rd _ _ 27 (by rfl) (by rfl) (by rfl) (.slice (some ⟨w7.heap.size, 0, none⟩) 1 1) [Value.int .u8 (B8 x.x)] (.int .u8 0) 1 elemB8 (by rfl) (by first | (with_reducible exact Mem.ev_const _ _) | (with_reducible exact Mem.ev_zero _ _ _) | (with_reducible (apply Eq.trans (Mem.ev_tmp _ _ _)); simp only [List.getD_cons_succ, List.getD_cons_zero] <;> rfl)) (ownB_V (O9.out)) (by first | (with_reducible exact Mem.ev_const _ _) | (with_reducible exact Mem.ev_zero _ _ _) | (with_reducible (apply Eq.trans (Mem.ev_tmp _ _ _)); simp only [List.getD_cons_succ, List.getD_cons_zero] <;> rfl)) (by exact rd_one) (by simp [Value.oneCell']) (by rw [u8s_length]; have := ML.out; simp; omega) (by rw [u8s_length]; have := ML.out; simp; omega) (by have := M7.out.row.lt; simp; omega) ?_
            intro v8 w8 ho8 hk8 hb8 hs8
            have A8 : Hid (At w8 bx (stepC6 x) 39) := at_app A9.out hk8 (O9.out.ne_at A9.out (by decide))
            have P8 : Hid (At w8 p (vrow vs) 58) := at_app P9.out hk8 (O9.out.ne_at P9.out (by decide))
            obtain ⟨a8, c8, rfl⟩ : ∃ a c, v8 = .slice a (u8s (might n (L.take j)) ++ [Value.int .u8 (B8 x.x)]).length c := (by obtain ⟨a, c, e, _⟩ := ho8.open; exact ⟨a, c, e⟩)
            refine ⟨A8.out, ?_⟩
            (simp only [Act.put, List.setIfInBounds_toArray, List.set_cons_zero, List.set_cons_succ])
            refine plan_index_arr1 58 27 4 _ _ p n (by rfl) (by rfl) (by rfl) (by first | (with_reducible exact Mem.ev_const _ _) | (with_reducible exact Mem.ev_zero _ _ _) | (with_reducible (apply Eq.trans (Mem.ev_tmp _ _ _)); simp only [List.getD_cons_succ, List.getD_cons_zero] <;> rfl)) (by first | (with_reducible exact Mem.ev_const _ _) | (with_reducible exact Mem.ev_zero _ _ _) | (with_reducible (apply Eq.trans (Mem.ev_tmp _ _ _)); simp only [List.getD_cons_succ, List.getD_cons_zero] <;> rfl)) N4.out Try.underlying58 (by kernel_rfl) ?_
            (simp only [Act.put, List.setIfInBounds_toArray, List.set_cons_zero, List.set_cons_succ])
            refine plan_store_one 27 _ _ p n (.slice a8 (u8s (might n (L.take j)) ++ [Value.int .u8 (B8 x.x)]).length c8) _ 58 (by rfl) (by rfl) (by rfl) (by rfl) (by first | (with_reducible exact Mem.ev_const _ _) | (with_reducible exact Mem.ev_zero _ _ _) | (with_reducible (apply Eq.trans (Mem.ev_tmp _ _ _)); simp only [List.getD_cons_succ, List.getD_cons_zero] <;> rfl)) (by first | (with_reducible exact Mem.ev_const _ _) | (with_reducible exact Mem.ev_zero _ _ _) | (with_reducible (apply Eq.trans (Mem.ev_tmp _ _ _)); simp only [List.getD_cons_succ, List.getD_cons_zero] <;> rfl)) (by rfl) infoBs P8.out N4.out (At.set_other A8.out _ _ (by show bx ≠ p; exact NBX.out)) ?_
            refine plan_nil ?_
            have J8 := Lib.hid (crj_next CC.out HBP.out M7.out S7.out SW.out SB.out SNN.out OKS.out N4.out LJ.out ho8 hk8 hb8 hs8 P8.out)
            generalize w8.setCell ⟨p, n, none⟩ (.slice a8 (u8s (might n (L.take j)) ++ [Value.int .u8 (B8 x.x)]).length c8) = w9 at *
            clear hk8 hb8 hs8 ho8 A8 P8
            go_wp2_with fail
            go_roundw
            case rel => exact ⟨j + 1, by omega, by go_num, J8.out⟩
            case measure => simp [intOf]; omega
        · have hj4 : ln = j := by omega
          subst hj4
          obtain ⟨vs, s, m1, s1, sw1, sb1, sn1, ok1⟩ := hI
          have hLj : L.take ln = L := by rw [LN.out]; exact List.take_length
          rw [hLj] at sw1
          have hm : Mi p (p + 1) vs (fun k => might k L) wr := by have h := m1; simp only [hLj] at h; exact h
          have M1 := Lib.hid hm; have S1 := Lib.hid s1; have SW := Lib.hid sw1; have SB := Lib.hid sb1; have SN := Lib.hid sn1
          have OKS : Hid (Ok6 1000 s) := ok1.mono (by omega)
          clear m1 s1 sw1 sb1 sn1 ok1 hLj hm hlt hj
          go_wp2_with fail
          refine (Solo.call S1.out (fun F h => CC.out.crash keep torn parts wr h OKS.out KP.out HT.out.1 HT.out.2 HPT.out.1 HPT.out.2)).mono ?_
          rintro e w2 ⟨rfl, hs2, hk2⟩
          have S2 := Lib.hid hs2; have M2 := Lib.hid (M1.out.kept hk2 (fun k hk => hk))
          have OK2 := Lib.hid (ok_crash OKS.out keep torn parts)
          have RD := Lib.hid (fun (k : Nat) (hk : k < 4) ht => crashed_read (keep := keep) (torn := torn) (parts := parts) (k := k) SW.out SB.out hk ht)
          have RZ : Hid (∀ k : Nat, k < 4 → keep = 0 → stRead (stCrash s keep torn parts) k = List.replicate 256 0) := (fun k hk h0 => by subst h0; exact crashed_zero SB.out hk)
          have W0 : Hid ((stCrash s keep torn parts).w.length = 0) := (rfl : (stCrash s keep torn parts).w.length = 0)
          have SN2 : Hid ((stCrash s keep torn parts).n = 4) := SN.out
          obtain ⟨s2, hs2e⟩ : ∃ s2, s2 = stCrash s keep torn parts := ⟨_, rfl⟩
          rw [← hs2e] at S2 OK2 RD RZ W0 SN2
          clear hs2 hk2 hs2e S1 M1 SW SB SN OKS
          go_wp2_with fail
          go_loopw [78] (fun i wr => ∃ k : Nat, k ≤ 4 ∧ i = .int .i64 k ∧ Mi p (p + 1) vs (fun k => might k L) wr ∧ Solo R b (miE p vs) w s2 wr) (fun i _ => 4 - (intOf i).toNat)
          case atStart => exact ⟨0, by omega, rfl, M2.out, S2.out⟩
          case round =>
            clear M2 S2
            obtain ⟨k, hk, rfl, hM, hS⟩ := hrel
            have M3 := Lib.hid hM; have S3 := Lib.hid hS
            clear hM hS
            by_cases hlt : k < 4
            · have hlt' : (k : Int) < 4 := by omega
              have HK : Hid (k < 4) := hlt
              go_upto_region 23 with fail
              go_cut [98] (fun x wx => ∃ c : Bool, x = .bool c ∧ (c = false → ∀ i, i < L.length → (i : Int) = torn → low3 (L.getD i default).n ≠ k) ∧ wx = wr)
              case first =>
                have h3 : torn < 0 ∨ (0 ≤ torn ∧ (ln : Int) ≤ torn) ∨ ∃ i : Nat, i < ln ∧ torn = i := by
                  by_cases h1 : torn < 0
                  · exact .inl h1
                  · by_cases h2 : (ln : Int) ≤ torn
                    · exact .inr (.inl ⟨by omega, h2⟩)
                    · exact .inr (.inr ⟨torn.toNat, by omega, by omega⟩)
                rcases h3 with h1 | ⟨h1, h2⟩ | ⟨i, hi, rfl⟩
                · have g1 : ¬ (0 : Int) ≤ torn := by omega
                  have NT : Hid (∀ i : Nat, i < L.length → (i : Int) = torn → low3 (L.getD i default).n ≠ k) := (fun i _ e => by omega)
                  go_wp2_with fail
                  go_meet
                  exact ⟨false, rfl, fun _ => NT.out, rfl⟩
                · have g1 : ¬ torn < (ln : Int) := by omega
                  have NT : Hid (∀ i : Nat, i < L.length → (i : Int) = torn → low3 (L.getD i default).n ≠ k) := (fun i hi e => by have := LN.out; omega)
                  go_wp2_with fail
                  go_meet
                  exact ⟨false, rfl, fun _ => NT.out, rfl⟩
                · have g0 : (0 : Int) ≤ (i : Int) := by omega
                  have g1 : (i : Int) < (ln : Int) := by omega
                  obtain ⟨b1, o1, ha1, cx⟩ := slS6_at (i := i) (ST.out.below S3.out.b) (by rw [← LN.out]; exact hi)
                  have c1 : wr.cell? ⟨b1, o1 + i * 5 + 1, none⟩ = some (.int .i64 (L.getD i default).n) := by rw [show o1 + i * 5 + 1 = o1 + (5 * i + 1) by omega]; exact cx 1 (by decide)
                  subst ha1
                  obtain ⟨x, hx⟩ : ∃ x, x = L.getD i default := ⟨_, rfl⟩
                  rw [← hx] at c1
                  have hlow := low3_eq x.n
                  obtain ⟨n, hn⟩ : ∃ n, n = low3 x.n := ⟨_, rfl⟩
                  rw [← hn] at hlow
                  have HN : Hid (n = low3 (L.getD i default).n) := by rw [← hx]; exact hn
                  clear cx hn hx
                  by_cases e : n = k
                  · subst e
                    go_wp2_with fail
                    go_meet
                    exact ⟨true, by first | rfl | simp [hlow], fun h => by simp at h, rfl⟩
                  · have e' : ¬ (n : Int) = (k : Int) := by omega
                    have NT : Hid (∀ i2 : Nat, i2 < L.length → (i2 : Int) = (i : Int) → low3 (L.getD i2 default).n ≠ k) := (fun i2 _ h2 => by have h3 : i2 = i := (by omega); rw [h3, ← HN.out]; exact e)
                    clear e
                    go_wp2_with fail
                    go_meet
                    exact ⟨false, by first | rfl | simp [e'], fun _ => NT.out, rfl⟩
              case rest =>
                obtain ⟨c, rfl, NT0, rfl⟩ := hcut
                have NT := Lib.hid NT0
                clear NT0
                cases c
                · obtain ⟨y, hy, hry⟩ := RD.out k HK.out (NT.out rfl)
                  have HRY := Lib.hid hry
                  obtain ⟨F9, f9, _⟩ := S3.out.f
                  obtain ⟨ms9, hms9⟩ : ∃ m, m = might k L := ⟨_, rfl⟩
                  have hml : ms9.length ≤ 61 := by
                    rw [hms9]; unfold might
                    rw [List.length_cons, List.length_map]
                    have := List.length_filter_le (fun x : Step6 => decide (low3 x.n = k)) L
                    have h2 := LN.out
                    omega
                  have OW := Lib.hid (M3.out.own k HK.out)
                  simp only [← hms9] at OW
                  rw [← hms9] at hy
                  have HY := Lib.hid hy
                  clear hy hry NT hms9
                  go_wp2_with fail
                  refine (CC.out.read k wc f9 OK2.out (by rw [SN2.out]; exact HK.out)).mono ?_
                  rintro e w8 ⟨v8, rfl, hs8, hb8⟩
                  rw [HRY.out] at hs8
                  obtain ⟨a8, c8, rfl⟩ := hs8.hd
                  rw [List.length_replicate] at hs8 ⊢
                  have M8 := Lib.hid (M3.out.below hb8); have S8 := Lib.hid (S3.out.below CC.out hb8)
                  have T8 := Lib.hid hs8.sl
                  have V8 := Lib.hid (OW.out.sl.below hb8)
                  obtain ⟨ak, ck, hvk, _⟩ := id V8.out
                  have cv : w8.cell? ⟨p, k, none⟩ = some (vs k) := M8.out.row.cell' k (vrow_at vs k HK.out)
                  rw [hvk] at cv V8
                  obtain ⟨m, hm⟩ : ∃ m, m = ms9.length := ⟨_, rfl⟩
                  rw [← hm] at cv V8 hml
                  have HM := Lib.hid hm
                  clear hs8 hb8 f9 M3 S3 OW hvk hm
                  go_wp2_with fail
                  clear cv
                  go_loopw [18, 109] (fun o i wy => ∃ j2 : Nat, j2 ≤ m ∧ i = .int .i64 j2 ∧ o = .bool (decide (y ∈ ms9.take j2)) ∧ Below w8.heap.size w8 wy) (fun _ i _ => m - (intOf i).toNat)
                  case atStart => exact ⟨0, by omega, rfl, by simp, Below.refl _ _⟩
                  case round =>
                    obtain ⟨j2, hj2, rfl, rfl, hB⟩ := hrel
                    have BB := Lib.hid hB
                    clear hB
                    by_cases hlt2 : j2 < m
                    · have hlt2' : (j2 : Int) < (m : Int) := by omega
                      have hjm : j2 < ms9.length := by rw [← HM.out]; exact hlt2
                      have VW := V8.out.below BB.out
                      rw [HM.out] at VW
                      obtain ⟨b1, o1, ha1, cx⟩ := sl_at (i := j2) VW hjm
                      have TM := Lib.hid (take_mem9 y ms9 j2 hjm)
                      obtain ⟨x, hx⟩ : ∃ x, x = ms9.getD j2 0 := ⟨_, rfl⟩
                      rw [← hx] at cx TM
                      obtain ⟨o, ho⟩ : ∃ o, o = decide (y ∈ ms9.take j2) := ⟨_, rfl⟩
                      rw [← ho] at TM ⊢
                      subst ha1
                      clear VW hjm hx ho
                      cases o
                      · go_wp2_with fail
                        refine (block_any x _).mono ?_
                        rintro e w9 ⟨g9, rfl, ha, hg, hb9⟩
                        have B9 := Lib.hid (BB.out.trans (hb9.mono BB.out.size))
                        have T9 := Lib.hid (at_sl ha rfl)
                        rw [List.length_replicate] at T9 ⊢
                        clear ha hg hb9 cx
                        go_wp2_with fail
                        refine (same_any (List.replicate 256 y) (List.replicate 256 x) _ _ w9 (T8.out.below B9.out) T9.out (by rw [List.length_replicate]; decide) (by rw [List.length_replicate]; decide)).mono ?_
                        rintro e w10 ⟨rfl, hb10⟩
                        rw [same_rep]
                        have B10 := Lib.hid (B9.out.trans (hb10.mono B9.out.size))
                        clear hb10 T9 B9
                        go_wp2_with fail
                        go_roundw
                        case rel => exact ⟨j2 + 1, by omega, by go_num, by rw [TM.out]; simp, B10.out⟩
                        case measure => simp [intOf]; omega
                      · go_wp2_with fail
                        go_roundw
                        case rel => exact ⟨j2 + 1, by omega, by go_num, by rw [TM.out]; simp, BB.out⟩
                        case measure => simp [intOf]; omega
                    · have hge : ¬ (j2 : Int) < (m : Int) := by omega
                      have hj9 : j2 = m := by omega
                      subst hj9
                      have hin : decide (y ∈ ms9.take j2) = true := by rw [HM.out, List.take_length]; exact decide_eq_true HY.out
                      rw [hin]
                      have M9 := Lib.hid (M8.out.below BB.out); have S9 := Lib.hid (S8.out.below CC.out BB.out); have T9 := Lib.hid (T8.out.below BB.out)
                      clear hin hlt2 M8 S8 T8 BB V8
                      go_upto_region 31 with fail
                      go_cut [1, 74, 136] (fun q q2 x wx => q = .int .u64 (keep : Int) ∧ q2 = .int .u64 (keep : Int) ∧ x = .bool false ∧ Below wr.heap.size wr wx)
                      case first =>
                        by_cases h0 : keep = 0
                        · have hy0 : y = 0 := by
                            have h := (HRY.out).symm.trans (RZ.out k HK.out h0)
                            exact (List.replicate_inj.1 h).2.resolve_left (by decide)
                          have g0 : (keep : Int) = 0 := by omega
                          subst hy0
                          clear h0
                          go_wp2_with fail
                          refine (block_any 0 _).mono ?_
                          rintro e w9 ⟨g9, rfl, ha, hg, hb9⟩
                          have B9 := Lib.hid hb9; have U9 := Lib.hid (T9.out.below hb9)
                          have V9 := Lib.hid (at_sl ha rfl)
                          rw [List.length_replicate] at V9 ⊢
                          clear ha hg hb9
                          go_wp2_with fail
                          refine (same_any (List.replicate 256 0) (List.replicate 256 0) _ _ w9 U9.out V9.out (by rw [List.length_replicate]; decide) (by rw [List.length_replicate]; decide)).mono ?_
                          rintro e w10 ⟨rfl, hb10⟩
                          rw [sameB_self]
                          have B10 := Lib.hid (B9.out.trans (hb10.mono B9.out.size))
                          clear hb10 B9 U9 V9
                          go_wp2_with fail
                          go_meet
                          exact ⟨by rw [g0], by rw [g0], rfl, B10.out⟩
                        · have g0 : ¬ (keep : Int) = 0 := by omega
                          clear h0
                          go_wp2_with fail
                          go_meet
                          exact ⟨rfl, rfl, rfl, Below.refl _ _⟩
                      case rest =>
                        obtain ⟨rfl, rfl, rfl, hb11⟩ := hcut
                        have M11 := Lib.hid (M9.out.below hb11); have S11 := Lib.hid (S9.out.below CC.out hb11)
                        clear hb11 M9 S9 T9
                        go_wp2_with fail
                        go_roundw
                        case rel => exact ⟨k + 1, by omega, by go_num, M11.out, S11.out⟩
                        case measure => simp [intOf]; omega
                · go_wp2_with fail
                  go_roundw
                  case rel => exact ⟨k + 1, by omega, by go_num, M3.out, S3.out⟩
                  case measure => simp [intOf]; omega
            · have hge : ¬ (k : Int) < 4 := by omega
              have B3 := Lib.hid S3.out.b
              obtain ⟨F9, f9, _⟩ := S3.out.f
              clear hlt M3 S3
              go_wp2_with fail
              refine (CC.out.waiting wr f9 OK2.out).mono ?_
              rintro e w8 ⟨v8, rfl, hs8, hb8⟩
              rw [W0.out] at hs8
              obtain ⟨a8, c8, rfl⟩ := slR_hd hs8
              have B8 := Lib.hid (B3.out.trans (hb8.mono B3.out.size))
              clear hs8 hb8 f9 B3
              go_wp2_with fail
              refine (ALV.out _).mono ?_
              rintro e w9 ⟨rfl, hb9⟩
              have B9 := Lib.hid (B8.out.trans (hb9.mono B8.out.size))
              clear hb9 B8
              go_wp2_with fail
              go_ret
              exact ⟨rfl, B9.out⟩
end Sha
end Go.Proofs.Ytkgpcgkikenljaa
