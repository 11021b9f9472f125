/- The document's store: Put: its walk. -/
import Derived.Test.YtkgpcgkikenljaaDevCrash
namespace Go.Proofs.Ytkgpcgkikenljaa
namespace Sha
open Go.RowKit Mem
theorem elemRS : elemR Try.prog 29 27 (.slice none 0 0) 1 24 := ⟨Try.underlying29, by kernel_rfl⟩
theorem infoShs : (Try.prog.info? 29).map (·.size) = some 1 := by kernel_rfl
/-- The worlds of a region that sets the shelf. -/
def SB3 (br N : Nat) (vb vw vt : Value) (wr x : World) : Prop := (∃ v3, At x br (stRow N vb vw v3 vt) 32) ∧ But br wr x
theorem sb3_one {br N : Nat} {vb vw vt : Value} {wr x : World} (h : SB3 br N vb vw vt wr x) : x.cell? ⟨br, 1, none⟩ = some vb := by
  obtain ⟨⟨v1, h⟩, _⟩ := h
  rw [h.cell]; rfl
theorem sb3_of {br N : Nat} {vb v3 vw vt : Value} {wr x : World} (h : At wr br (stRow N vb vw v3 vt) 32) (hb : Below wr.heap.size wr x) : SB3 br N vb vw vt wr x :=
  ⟨⟨v3, h.below hb h.lt⟩, hb.size, fun k hk _ => hb.block k hk⟩
theorem sb3_set {br N : Nat} {vb v3 vw vt : Value} {wr x : World} (h : At wr br (stRow N vb vw v3 vt) 32) (hb : Below wr.heap.size wr x) (v : Value) : SB3 br N vb vw vt wr (x.setCell ⟨br, 3, none⟩ v) :=
  ⟨⟨v, (h.below hb h.lt).set 3 v⟩, (But.refl br wr).below hb |>.row (by simp) (fun k hk => heap_setCell_other x ⟨br, 3, none⟩ k v hk)⟩
theorem wsh_one {G : Foot} {w : World} : ∀ {hs : List Value} {l : List (List (BitVec 8))}, Each2 (fun p q => SlB G w p q) hs l → ∀ u ∈ hs, u.oneCell' = true
  | [], [], _, u, hu => by simp at hu
  | p :: hs, q :: l, h, u, hu => by
    rcases List.mem_cons.1 hu with rfl | hu
    · obtain ⟨_, a, cap, e, _⟩ := h.1
      rw [e]; rfl
    · exact wsh_one h.2 u hu
def stPut (s : St6) : St6 := { s with sh := s.sh ++ [s.b] }
set_option maxRecDepth 100000 in
set_option maxHeartbeats 1000000 in
theorem rput_full {F : Foot} {br : Nat} {s : St6} (w : World) (hr : RSt F br w s) (hs : s.sh.length ≤ 1000000) (hl : 16 ≤ s.sh.length) :
    Calls Try.prog 31 #[rq br] w fun e w' => e = .returned (.tuple #[.int .i64 0, .int .i64 5]) ∧ w = w' := by
  obtain ⟨vb, vw, vs, vt, hv⟩ := hr.v
  obtain ⟨asx, caps, rfl⟩ := hv.four.fs.hd
  obtain ⟨L, hL⟩ : ∃ L, L = s.sh.length := ⟨_, rfl⟩
  have hrow := hv.row
  rw [← hL] at hs hrow hl
  have c3 : w.cell? ⟨br, 3, none⟩ = some (.slice asx L caps) := by rw [hrow.cell]; rfl
  have g1 : (16 : Int) ≤ (L : Int) := by omega
  clear hr hv hrow hL
  go_enter Try.func31, Try.ntmps31
  go_wp2
  go_ret2
  exact ⟨rfl, rfl⟩
set_option maxRecDepth 100000 in
set_option maxHeartbeats 4000000 in
theorem rput_good {F : Foot} {br : Nat} {s : St6} (w : World) (hr : RSt F br w s) (hb : s.b.length ≤ 1000000) (hl : s.sh.length < 16) :
    Calls Try.prog 31 #[rq br] w fun e w' => e = .returned (.tuple #[.int .i64 (s.sh.length : Int), .int .i64 0]) ∧ StEnd RSt F br w (stPut s) w' := by
  obtain ⟨vb, vw, vs, vt, hv⟩ := hr.v
  obtain ⟨asx, caps, rfl⟩ := hv.four.fs.hd
  obtain ⟨ab, capb, rfl⟩ := hv.four.fb.hd
  have hslb := hv.four.fb.sl
  obtain ⟨hs, hee, hsr⟩ := hv.four.fs
  have hone := wsh_one hee
  obtain ⟨L, hL⟩ : ∃ L, L = s.sh.length := ⟨_, rfl⟩
  obtain ⟨TB, hTB⟩ : ∃ TB, TB = s.b.length := ⟨_, rfl⟩
  obtain ⟨N, hN⟩ : ∃ N, N = s.n := ⟨_, rfl⟩
  have hrow := hv.row
  rw [← hTB] at hb hrow hslb hv
  rw [← hL] at hrow hl hsr hv ⊢
  rw [← hN] at hrow
  have c3 : w.drew.cell? ⟨br, 3, none⟩ = some (.slice asx L caps) := by show w.cell? _ = _; rw [hrow.cell]; rfl
  have c3' : w.cell? ⟨br, 3, none⟩ = some (.slice asx L caps) := c3
  have g1 : ¬ (16 : Int) ≤ (L : Int) := by omega
  have S0 : Hid (SB3 br N (.slice ab TB capb) vw vt w w.drew) := sb3_of hrow (Below.refl _ _).drew
  have HV := Lib.hid hv; have HROW := Lib.hid hrow; have SLB := Lib.hid hslb; have HEE := Lib.hid hee; have HR : Hid (RdR w.drew 1 (.slice asx L caps) L hs) := SlR.rd (SlR.below hsr (Below.refl _ _).drew); have HONE := Lib.hid hone; have HTB := Lib.hid hTB; have HL := Lib.hid hL; have HN := Lib.hid hN
  clear hr hv hrow hslb hee hsr hone hTB hL hN
  go_enter Try.func31, Try.ntmps31
  go_wp2_with fail
  refine wp_region_plan_in (SB3 br N (.slice ab TB capb) vw vt w) (.take 0 (.take 1 (.take 2 (.take 3 (.take 6 (.take 7 (.take 8 (.take 9 (.sole 4 (.sole 5 (.sole 10 (.sole 11 (.sole 12 (.take 13 (.take 14 (.sole 15 .done)))))))))))))))) (by kernel_rfl) (by kernel_rfl) (by kernel_rfl) S0.out ?_
  (first | (refine plan_move _ _ (by rfl) (by rfl) (.inl (by rfl)) (by first | (with_reducible exact Mem.ev_const _ _) | (with_reducible exact Mem.ev_zero _ _ _) | (with_reducible (apply Eq.trans (Mem.ev_tmp _ _ _)); simp only [List.getD_cons_succ, List.getD_cons_zero] <;> rfl)) ?_) | (refine plan_move _ _ (by rfl) (by rfl) (.inr (by rfl)) (by first | (with_reducible exact Mem.ev_const _ _) | (with_reducible exact Mem.ev_zero _ _ _) | (with_reducible (apply Eq.trans (Mem.ev_tmp _ _ _)); simp only [List.getD_cons_succ, List.getD_cons_zero] <;> rfl)) ?_) | (refine plan_pick_t _ _ _ _ (by rfl) (by rfl) (by rfl) (by first | (with_reducible exact Mem.ev_const _ _) | (with_reducible exact Mem.ev_zero _ _ _) | (with_reducible (apply Eq.trans (Mem.ev_tmp _ _ _)); simp only [List.getD_cons_succ, List.getD_cons_zero] <;> rfl)) (by first | (with_reducible exact Mem.ev_const _ _) | (with_reducible exact Mem.ev_zero _ _ _) | (with_reducible (apply Eq.trans (Mem.ev_tmp _ _ _)); simp only [List.getD_cons_succ, List.getD_cons_zero] <;> rfl)) ?_) | (refine plan_pick_f _ _ _ _ (by rfl) (by rfl) (by rfl) (by first | (with_reducible exact Mem.ev_const _ _) | (with_reducible exact Mem.ev_zero _ _ _) | (with_reducible (apply Eq.trans (Mem.ev_tmp _ _ _)); simp only [List.getD_cons_succ, List.getD_cons_zero] <;> rfl)) (by first | (with_reducible exact Mem.ev_const _ _) | (with_reducible exact Mem.ev_zero _ _ _) | (with_reducible (apply Eq.trans (Mem.ev_tmp _ _ _)); simp only [List.getD_cons_succ, List.getD_cons_zero] <;> rfl)) ?_))
  (simp only [Act.put, List.setIfInBounds_toArray, List.set_cons_zero, List.set_cons_succ])
  (first | (refine plan_move _ _ (by rfl) (by rfl) (.inl (by rfl)) (by first | (with_reducible exact Mem.ev_const _ _) | (with_reducible exact Mem.ev_zero _ _ _) | (with_reducible (apply Eq.trans (Mem.ev_tmp _ _ _)); simp only [List.getD_cons_succ, List.getD_cons_zero] <;> rfl)) ?_) | (refine plan_move _ _ (by rfl) (by rfl) (.inr (by rfl)) (by first | (with_reducible exact Mem.ev_const _ _) | (with_reducible exact Mem.ev_zero _ _ _) | (with_reducible (apply Eq.trans (Mem.ev_tmp _ _ _)); simp only [List.getD_cons_succ, List.getD_cons_zero] <;> rfl)) ?_) | (refine plan_pick_t _ _ _ _ (by rfl) (by rfl) (by rfl) (by first | (with_reducible exact Mem.ev_const _ _) | (with_reducible exact Mem.ev_zero _ _ _) | (with_reducible (apply Eq.trans (Mem.ev_tmp _ _ _)); simp only [List.getD_cons_succ, List.getD_cons_zero] <;> rfl)) (by first | (with_reducible exact Mem.ev_const _ _) | (with_reducible exact Mem.ev_zero _ _ _) | (with_reducible (apply Eq.trans (Mem.ev_tmp _ _ _)); simp only [List.getD_cons_succ, List.getD_cons_zero] <;> rfl)) ?_) | (refine plan_pick_f _ _ _ _ (by rfl) (by rfl) (by rfl) (by first | (with_reducible exact Mem.ev_const _ _) | (with_reducible exact Mem.ev_zero _ _ _) | (with_reducible (apply Eq.trans (Mem.ev_tmp _ _ _)); simp only [List.getD_cons_succ, List.getD_cons_zero] <;> rfl)) (by first | (with_reducible exact Mem.ev_const _ _) | (with_reducible exact Mem.ev_zero _ _ _) | (with_reducible (apply Eq.trans (Mem.ev_tmp _ _ _)); simp only [List.getD_cons_succ, List.getD_cons_zero] <;> rfl)) ?_))
  (simp only [Act.put, List.setIfInBounds_toArray, List.set_cons_zero, List.set_cons_succ])
  refine plan_nilcheck _ ⟨br, 0, none⟩ (by rfl) (by rfl) (by rfl) (by first | (with_reducible exact Mem.ev_const _ _) | (with_reducible exact Mem.ev_zero _ _ _) | (with_reducible (apply Eq.trans (Mem.ev_tmp _ _ _)); simp only [List.getD_cons_succ, List.getD_cons_zero] <;> rfl)) ?_
  (simp only [Act.put, List.setIfInBounds_toArray, List.set_cons_zero, List.set_cons_succ])
  refine plan_field 32 _ 3 br 0 ⟨br, 3, none⟩ (by rfl) (by rfl) (by rfl) (by first | (with_reducible exact Mem.ev_const _ _) | (with_reducible exact Mem.ev_zero _ _ _) | (with_reducible (apply Eq.trans (Mem.ev_tmp _ _ _)); simp only [List.getD_cons_succ, List.getD_cons_zero] <;> rfl)) (fun wx => by go_simp) ?_
  (simp only [Act.put, List.setIfInBounds_toArray, List.set_cons_zero, List.set_cons_succ])
  (first | (refine plan_move _ _ (by rfl) (by rfl) (.inl (by rfl)) (by first | (with_reducible exact Mem.ev_const _ _) | (with_reducible exact Mem.ev_zero _ _ _) | (with_reducible (apply Eq.trans (Mem.ev_tmp _ _ _)); simp only [List.getD_cons_succ, List.getD_cons_zero] <;> rfl)) ?_) | (refine plan_move _ _ (by rfl) (by rfl) (.inr (by rfl)) (by first | (with_reducible exact Mem.ev_const _ _) | (with_reducible exact Mem.ev_zero _ _ _) | (with_reducible (apply Eq.trans (Mem.ev_tmp _ _ _)); simp only [List.getD_cons_succ, List.getD_cons_zero] <;> rfl)) ?_) | (refine plan_pick_t _ _ _ _ (by rfl) (by rfl) (by rfl) (by first | (with_reducible exact Mem.ev_const _ _) | (with_reducible exact Mem.ev_zero _ _ _) | (with_reducible (apply Eq.trans (Mem.ev_tmp _ _ _)); simp only [List.getD_cons_succ, List.getD_cons_zero] <;> rfl)) (by first | (with_reducible exact Mem.ev_const _ _) | (with_reducible exact Mem.ev_zero _ _ _) | (with_reducible (apply Eq.trans (Mem.ev_tmp _ _ _)); simp only [List.getD_cons_succ, List.getD_cons_zero] <;> rfl)) ?_) | (refine plan_pick_f _ _ _ _ (by rfl) (by rfl) (by rfl) (by first | (with_reducible exact Mem.ev_const _ _) | (with_reducible exact Mem.ev_zero _ _ _) | (with_reducible (apply Eq.trans (Mem.ev_tmp _ _ _)); simp only [List.getD_cons_succ, List.getD_cons_zero] <;> rfl)) (by first | (with_reducible exact Mem.ev_const _ _) | (with_reducible exact Mem.ev_zero _ _ _) | (with_reducible (apply Eq.trans (Mem.ev_tmp _ _ _)); simp only [List.getD_cons_succ, List.getD_cons_zero] <;> rfl)) ?_))
  (simp only [Act.put, List.setIfInBounds_toArray, List.set_cons_zero, List.set_cons_succ])
  refine plan_nilcheck _ ⟨br, 0, none⟩ (by rfl) (by rfl) (by rfl) (by first | (with_reducible exact Mem.ev_const _ _) | (with_reducible exact Mem.ev_zero _ _ _) | (with_reducible (apply Eq.trans (Mem.ev_tmp _ _ _)); simp only [List.getD_cons_succ, List.getD_cons_zero] <;> rfl)) ?_
  (simp only [Act.put, List.setIfInBounds_toArray, List.set_cons_zero, List.set_cons_succ])
  refine plan_field 32 _ 1 br 0 ⟨br, 1, none⟩ (by rfl) (by rfl) (by rfl) (by first | (with_reducible exact Mem.ev_const _ _) | (with_reducible exact Mem.ev_zero _ _ _) | (with_reducible (apply Eq.trans (Mem.ev_tmp _ _ _)); simp only [List.getD_cons_succ, List.getD_cons_zero] <;> rfl)) (fun wx => by go_simp) ?_
  (simp only [Act.put, List.setIfInBounds_toArray, List.set_cons_zero, List.set_cons_succ])
  refine plan_cell 27 _ _ (.slice ab TB capb) _ (by rfl) (by rfl) (by rfl) (by first | (with_reducible exact Mem.ev_const _ _) | (with_reducible exact Mem.ev_zero _ _ _) | (with_reducible (apply Eq.trans (Mem.ev_tmp _ _ _)); simp only [List.getD_cons_succ, List.getD_cons_zero] <;> rfl)) (fun w' hw' => sb3_one hw') Try.underlying27 (by rfl) ?_
  (simp only [Act.put, List.setIfInBounds_toArray, List.set_cons_zero, List.set_cons_succ])
  refine plan_sole_cell 29 _ _ (.slice asx L caps) _ (by rfl) (by rfl) (by rfl) (by first | (with_reducible exact Mem.ev_const _ _) | (with_reducible exact Mem.ev_zero _ _ _) | (with_reducible (apply Eq.trans (Mem.ev_tmp _ _ _)); simp only [List.getD_cons_succ, List.getD_cons_zero] <;> rfl)) (by exact c3) Try.underlying29 (by rfl) S0.out ?_
  (simp only [Act.put, List.setIfInBounds_toArray, List.set_cons_zero, List.set_cons_succ])
  refine plan_append_rows _ _ 29 (by rfl) (by rfl) (by rfl) (.slice asx L caps) 0 L 1 hs (.slice none 0 0) 24 elemRS (by rfl) (by decide) (by rfl) (ownsRow_nil0 w.drew w.heap.size _ 1) (by first | (with_reducible exact Mem.ev_const _ _) | (with_reducible exact Mem.ev_zero _ _ _) | (with_reducible (apply Eq.trans (Mem.ev_tmp _ _ _)); simp only [List.getD_cons_succ, List.getD_cons_zero] <;> rfl)) HR.out HONE.out (by omega) (by omega) (Nat.le_refl _) ?_
  intro v5 w5 ho5 _ hb5
  have B5 : Hid (Below w.heap.size w w5) := (Below.refl _ _).drew.trans hb5
  have O5 := Lib.hid ho5
  clear ho5 hb5
  refine ⟨sb3_of HROW.out B5.out, ?_⟩
  (simp only [Act.put, List.setIfInBounds_toArray, List.set_cons_zero, List.set_cons_succ])
  refine plan_append_b _ _ (by rfl) (by rfl) (by rfl) w5.heap.size (.slice none 0 0) (.slice ab TB capb) [] s.b (by rfl) (OwnB.nil _ _) (by first | (with_reducible exact Mem.ev_const _ _) | (with_reducible exact Mem.ev_zero _ _ _) | (with_reducible (apply Eq.trans (Mem.ev_tmp _ _ _)); simp only [List.getD_cons_succ, List.getD_cons_zero] <;> rfl)) (SLB.out.below B5.out) (by rw [List.length_nil, ← HTB.out]; omega) (Nat.le_refl _) ?_
  intro v6 w6 ho6 _ hb6
  obtain ⟨a6, c6, rfl⟩ := own_hd (n := TB) ho6 (by rw [List.nil_append, HTB.out])
  have B6 := Lib.hid hb6; have O6 := Lib.hid ho6
  have BB6 : Hid (Below w.heap.size w w6) := B5.out.trans (hb6.mono B5.out.size)
  clear ho6 hb6
  refine ⟨sb3_of HROW.out BB6.out, ?_⟩
  (simp only [Act.put, List.setIfInBounds_toArray, List.set_cons_zero, List.set_cons_succ])
  refine plan_slice 29 27 1 _ #[.slice a6 TB c6] (by rfl) (by rfl) (by rfl) Try.underlying29 (by kernel_rfl) (sb3_of HROW.out (BB6.out.alloc BB6.out.size _)) ?_
  (simp only [Act.put, List.setIfInBounds_toArray, List.set_cons_zero, List.set_cons_succ])
  refine plan_append_rows _ _ 29 (by rfl) (by rfl) (by rfl) (.slice (some ⟨w6.heap.size, 0, none⟩) 1 1) (0 + L) 1 1 [.slice a6 TB c6] (.slice none 0 0) 24 elemRS (by rfl) (by decide) (by first | (with_reducible exact Mem.ev_const _ _) | (with_reducible exact Mem.ev_zero _ _ _) | (with_reducible (apply Eq.trans (Mem.ev_tmp _ _ _)); simp only [List.getD_cons_succ, List.getD_cons_zero] <;> rfl)) (ownsRow_below O5.out (B6.out.alloc B6.out.size _)) (by first | (with_reducible exact Mem.ev_const _ _) | (with_reducible exact Mem.ev_zero _ _ _) | (with_reducible (apply Eq.trans (Mem.ev_tmp _ _ _)); simp only [List.getD_cons_succ, List.getD_cons_zero] <;> rfl)) (by exact rdR_new (e := 27) (C := #[.slice a6 TB c6])) (by simp [Value.oneCell']) (by omega) (by omega) (by have h5 := BB6.out.size; simp; omega) ?_
  intro v7 w7 ho7 hk7 hb7
  rw [Nat.zero_add] at ho7
  have B7 : Hid (Below w.heap.size w w7) := (BB6.out.alloc BB6.out.size _).trans hb7
  obtain ⟨a7, c7, rfl⟩ := rows_hd ho7
  have S7 := Lib.hid (own_keep7 (B := w.heap.size) O5.out (by simpa using O6.out) hk7 hb7.size)
  have O7 := Lib.hid ho7
  clear ho7 hk7 hb7
  refine ⟨sb3_of HROW.out B7.out, ?_⟩
  (simp only [Act.put, List.setIfInBounds_toArray, List.set_cons_zero, List.set_cons_succ])
  refine plan_nilcheck _ ⟨br, 0, none⟩ (by rfl) (by rfl) (by rfl) (by first | (with_reducible exact Mem.ev_const _ _) | (with_reducible exact Mem.ev_zero _ _ _) | (with_reducible (apply Eq.trans (Mem.ev_tmp _ _ _)); simp only [List.getD_cons_succ, List.getD_cons_zero] <;> rfl)) ?_
  (simp only [Act.put, List.setIfInBounds_toArray, List.set_cons_zero, List.set_cons_succ])
  refine plan_field 32 _ 3 br 0 ⟨br, 3, none⟩ (by rfl) (by rfl) (by rfl) (by first | (with_reducible exact Mem.ev_const _ _) | (with_reducible exact Mem.ev_zero _ _ _) | (with_reducible (apply Eq.trans (Mem.ev_tmp _ _ _)); simp only [List.getD_cons_succ, List.getD_cons_zero] <;> rfl)) (fun wx => by go_simp) ?_
  (simp only [Act.put, List.setIfInBounds_toArray, List.set_cons_zero, List.set_cons_succ])
  refine plan_store_one 29 _ _ br 3 (.slice a7 (L + 1) c7) _ 32 (by rfl) (by rfl) (by rfl) (by rfl) (by first | (with_reducible exact Mem.ev_const _ _) | (with_reducible exact Mem.ev_zero _ _ _) | (with_reducible (apply Eq.trans (Mem.ev_tmp _ _ _)); simp only [List.getD_cons_succ, List.getD_cons_zero] <;> rfl)) (by first | (with_reducible exact Mem.ev_const _ _) | (with_reducible exact Mem.ev_zero _ _ _) | (with_reducible (apply Eq.trans (Mem.ev_tmp _ _ _)); simp only [List.getD_cons_succ, List.getD_cons_zero] <;> rfl)) (by rfl) infoShs (HROW.out.below B7.out HV.out.br) (by simp [stRow]) (sb3_set HROW.out B7.out _) ?_
  refine plan_nil ?_
  have hat : At (w7.setCell ⟨br, 3, none⟩ (.slice a7 (L + 1) c7)) br (stRow N (.slice ab TB capb) vw (.slice a7 (L + 1) c7) vt) 32 := (HROW.out.below B7.out HV.out.br).set 3 _
  have hsh : WSh (fun k => (F k ∨ w.heap.size ≤ k) ∧ k ≠ br) w7 (.slice a7 (L + 1) c7) (s.sh ++ [s.b]) := by
    have hbr := HV.out.br
    have h6 := B5.out.size
    refine ⟨hs ++ [.slice a6 TB c6], Each2.snoc (S7.out.mono fun k hk _ => ⟨.inr (by omega), by omega⟩) (HEE.out.mono fun p q h => (h.keep B7.out.size fun k _ hlt => B7.out.block k hlt).mono fun k hk _ => ⟨.inl hk.1, hk.2⟩), ?_⟩
    have h8 := (ownsRow_slR O7.out).mono (G := fun k => (F k ∨ w.heap.size ≤ k) ∧ k ≠ br) (fun k hk _ => ⟨.inr hk, by omega⟩)
    rw [List.length_append, ← HL.out]
    simpa using h8
  have R8 := Lib.hid (rv_set (n' := N) (s' := stPut s) HV.out B7.out HN.out hat (fun k hk => heap_setCell_other w7 ⟨br, 3, none⟩ k _ hk) (fun B a hB hle => hB.setCell hle _) ⟨(four_old HV.out.four B7.out).fb, (four_old HV.out.four B7.out).fw, hsh, (four_old HV.out.four B7.out).ft⟩)
  have c38 : (w7.setCell ⟨br, 3, none⟩ (.slice a7 (L + 1) c7)).cell? ⟨br, 3, none⟩ = some (.slice a7 (L + 1) c7) := by rw [hat.cell]; rfl
  have l16 : L < 16 := hl
  clear hat hsh c3 c3'
  generalize w7.setCell ⟨br, 3, none⟩ (.slice a7 (L + 1) c7) = w8 at *
  go_wp2_with fail
  go_ret2
  exact ⟨rfl, rv_end R8.out.1 R8.out.2⟩
end Sha
end Go.Proofs.Ytkgpcgkikenljaa
