/- The document's store: Write, Tamper, Restore: walks. -/
import Derived.Test.YtkgpcgkikenljaaDevRef
namespace Go.Proofs.Ytkgpcgkikenljaa
namespace Sha
open Go.RowKit Mem
def zeroPut : Value := .agg #[.int .i64 0, .slice none 0 0]
theorem elemRP : elemR Try.prog 28 48 zeroPut 2 32 := ⟨Try.underlying28, by kernel_rfl⟩
theorem elemRI : elemR Try.prog 30 3 (.int .i64 0) 1 8 := ⟨Try.underlying30, by kernel_rfl⟩
theorem infoPuts : (Try.prog.info? 28).map (·.size) = some 1 := by kernel_rfl
theorem infoInts : (Try.prog.info? 30).map (·.size) = some 1 := by kernel_rfl
theorem infoBs : (Try.prog.info? 27).map (·.size) = some 1 := by kernel_rfl
def stWrite (s : St6) (n : Nat) (x : List (BitVec 8)) : St6 := { s with w := s.w ++ [(n, x)], t := s.t ++ [(n : Int)] }
theorem own_hd {w : World} {B n : Nat} {v : Value} {l : List (BitVec 8)} (h : OwnB w B v l) (hn : n = l.length) : ∃ a c, v = .slice a n c := by
  obtain ⟨a, c, rfl, _⟩ := h.open
  exact ⟨a, c, by rw [hn]⟩
theorem i64s_one (l : List Int) : ∀ u ∈ i64s l, u.oneCell' = true := by
  intro u hu
  obtain ⟨x, _, rfl⟩ := List.mem_map.1 hu
  rfl
/-- What a write that waits leaves. -/
theorem wput_snoc {F : Foot} {br M : Nat} {w w7 : World} {ws : List (Nat × Value)} {l : List (Nat × List (BitVec 8))} {v5 v7 : Value} {n : Nat} {x : List (BitVec 8)} (hbr : br < w.heap.size)
    (h1 : Each2 (fun p q => p.1 = q.1 ∧ SlB (fun k => F k ∧ k ≠ br) w p.2 q.2) ws l) (hM : M = l.length) (hb : Below w.heap.size w w7) (h5 : SlB (fun k => w.heap.size ≤ k) w7 v5 x)
    (h7 : w7.ownsRow w.heap.size 48 2 v7 (M + 1) ([] ++ putC ws ++ [.int .i64 (n : Int), v5])) : WPut (fun k => (F k ∨ w.heap.size ≤ k) ∧ k ≠ br) w7 v7 (l ++ [(n, x)]) := by
  subst hM
  refine ⟨ws ++ [(n, v5)], Each2.snoc ⟨rfl, h5.mono fun k hk _ => ⟨.inr hk, by omega⟩⟩ (h1.mono fun p q h => ⟨h.1, (h.2.keep hb.size fun k _ hlt => hb.block k hlt).mono fun k hk _ => ⟨.inl hk.1, hk.2⟩⟩), ?_⟩
  have h8 := (ownsRow_slR h7).mono (G := fun k => (F k ∨ w.heap.size ≤ k) ∧ k ≠ br) (fun k hk _ => ⟨.inr hk, by omega⟩)
  rw [putC_snoc, List.length_append]
  simpa using h8
theorem wtr_snoc {F : Foot} {br M : Nat} {w w7 : World} {l : List Int} {v7 : Value} {n : Int} (hbr : br < w.heap.size) (hM : M = l.length)
    (h7 : w7.ownsRow w.heap.size 3 1 v7 (M + 1) ([] ++ i64s l ++ [.int .i64 n])) : WTr (fun k => (F k ∨ w.heap.size ≤ k) ∧ k ≠ br) w7 v7 (l ++ [n]) := by
  subst hM
  have h8 := (ownsRow_slR h7).mono (G := fun k => (F k ∨ w.heap.size ≤ k) ∧ k ≠ br) (fun k hk _ => ⟨.inr hk, by omega⟩)
  unfold WTr
  rw [List.length_append]
  simpa [i64s] using h8
theorem rows_hd {w : World} {B : Nat} {e : TypeId} {z n : Nat} {v : Value} {xs : List Value} (h : w.ownsRow B e z v n xs) : ∃ a c, v = .slice a n c := by
  obtain ⟨_, a, c, e, _⟩ := ownsRow_slR h
  exact ⟨a, c, e⟩
/-- Bytes that were made behind a slice stay, when that slice grows. -/
theorem own_keep7 {w4 w5 w7 : World} {B z n : Nat} {e : TypeId} {v4 v5 : Value} {xs : List Value} {x : List (BitVec 8)} {o : Obj} (h4 : w4.ownsRow B e z v4 n xs) (h5 : OwnB w5 w4.heap.size v5 ([] ++ x))
    (hk : ∀ k, k < (w5.alloc o).heap.size → v4.ownBlock ≠ some k → w7.heap[k]? = (w5.alloc o).heap[k]?) (hs : (w5.alloc o).heap.size ≤ w7.heap.size) : SlB (fun k => w4.heap.size ≤ k) w7 v5 x := by
  rw [List.nil_append] at h5
  have hal : Below w5.heap.size w5 (w5.alloc o) := (Below.refl _ _).alloc (Nat.le_refl _) _
  refine h5.slB.keep (Nat.le_trans hal.size hs) fun k hge hlt => ?_
  rw [hk k (Nat.lt_of_lt_of_le hlt hal.size) (fun e => by have := (World.ownsRow.lt h4 k e).2; omega), hal.block k hlt]
set_option maxRecDepth 100000 in
set_option maxHeartbeats 2000000 in
theorem rwrite_good {F : Foot} {br : Nat} {s : St6} (n : Nat) (x : List (BitVec 8)) (vx : Value) (w : World) (hr : RSt F br w s) (hx : Sl w vx x) (_hb : s.n ≤ 1024) (hn : n < s.n) (hxl : x.length = 256) (hw : s.w.length ≤ 1000000) (ht : s.t.length ≤ 1000000) :
    Calls Try.prog 33 #[rq br, .int .i64 (n : Int), vx] w fun e w' => e = .returned (.int .i64 0) ∧ StEnd RSt F br w (stWrite s n x) w' := by
  obtain ⟨vb, vw, vs, vt, hv⟩ := hr.v
  have hx0 := hx
  obtain ⟨ax, capx, rfl, _, _⟩ := hx
  rw [hxl] at hx0 ⊢
  obtain ⟨N, hN⟩ : ∃ N, N = s.n := ⟨_, rfl⟩
  obtain ⟨aw, capw, rfl⟩ := hv.four.fw.hd
  obtain ⟨at4, capt, rfl⟩ := hv.four.ft.hd
  obtain ⟨M, hM⟩ : ∃ M, M = s.w.length := ⟨_, rfl⟩
  obtain ⟨T, hT⟩ : ∃ T, T = s.t.length := ⟨_, rfl⟩
  have hwp := hv.four.fw
  have htp := hv.four.ft
  rw [← hM] at hv hw hwp
  rw [← hT] at hv ht htp
  obtain ⟨ws, hws, hwr⟩ := hwp
  have hone := putC_one hws
  rw [← hM] at hwr
  unfold WTr at htp
  rw [← hT] at htp
  have hrow := hv.row
  rw [← hN] at hn _hb hrow
  have c0 : w.cell? ⟨br, 0, none⟩ = some (.int .i64 (N : Int)) := by rw [hrow.cell]; rfl
  have c2 : w.cell? ⟨br, 2, none⟩ = some (.slice aw M capw) := by rw [hrow.cell]; rfl
  have g1 : ¬ (N : Int) ≤ (n : Int) := by omega
  have HV := Lib.hid hv; have HX := Lib.hid hx0; have WS := Lib.hid hws; have WR := Lib.hid hwr.rd; have TR := Lib.hid htp; have ONE := Lib.hid hone; have HN := Lib.hid hN; have HM := Lib.hid hM; have HT := Lib.hid hT; have HROW := Lib.hid hrow; have XL := Lib.hid hxl
  clear hr hv hx0 hws hwr htp hone hN hM hT hrow hxl
  go_enter Try.func33, Try.ntmps33
  go_wp2_with (first
    | (at_builtin; refine wpList_append_rows (by rfl) _ _ 28 (by rfl) (.slice aw M capw) 0 M 2 (putC ws) zeroPut 32 elemRP (by rfl) (by decide) (by rfl) (ownsRow_nil0 w w.heap.size _ 2) (by rfl) WR.out ONE.out (by omega) (by omega) (Nat.le_refl _) ?_; intro v4 w4 ho4 _ hb4; have O4 := Lib.hid ho4; have B4 := Lib.hid hb4; clear ho4 hb4)
    | (at_builtin; refine wpList_append_bytes (by rfl) _ _ (by rfl) w4.heap.size (.slice none 0 0) (.slice ax 256 capx) [] x (by rfl) (OwnB.nil _ _) (by rfl) (HX.out.below B4.out) (by rw [List.length_nil, XL.out]; omega) (Nat.le_refl _) ?_; intro v5 w5 ho5 _ hb5; obtain ⟨a5, c5, rfl⟩ := own_hd (n := 256) ho5 (by rw [List.nil_append, XL.out]); have O5 := Lib.hid ho5; have B5 := Lib.hid hb5; clear ho5 hb5)
    | (at_builtin; refine wpList_append_rows (by rfl) _ _ 28 (by rfl) (.slice (some ⟨w5.heap.size, 0, none⟩) 1 1) (0 + M) 1 2 [.int .i64 (n : Int), .slice a5 256 c5] zeroPut 32 elemRP (by rfl) (by decide) (by rfl) (ownsRow_below O4.out (B5.out.alloc B5.out.size _)) (by rfl) (by exact rdR_new (e := 48) (C := #[.int .i64 (n : Int), .slice a5 256 c5])) (by simp [Value.oneCell']) (by omega) (by omega) (by have h4 := B4.out.size; have h5 := B5.out.size; simp; omega) ?_; intro v7 w7 ho7 hk7 hb7; rw [Nat.zero_add] at ho7; have B7 := Lib.hid (((B4.out.trans (B5.out.mono B4.out.size)).alloc (Nat.le_trans B4.out.size B5.out.size) _).trans hb7); have S7 := Lib.hid (own_keep7 O4.out O5.out hk7 (hb7.size)); obtain ⟨a7, c7, rfl⟩ := rows_hd ho7; have O7 := Lib.hid ho7; clear ho7 hk7 hb7)
    | (refine Mem.wpList_store_one (by rfl) 28 _ _ (by rfl) (by rfl) br 2 (.slice a7 (M + 1) c7) (by rfl) (by rfl) (by rfl) infoPuts _ 32 (HROW.out.below B7.out HV.out.br) (by simp [stRow]) ?_; intro w8 ha ho hk; have R8 := Lib.hid (rv_set (n' := N) (s' := { s with w := s.w ++ [(n, x)] }) HV.out B7.out HN.out (by exact ha) ho hk ⟨(four_old HV.out.four B7.out).fb, wput_snoc HV.out.br WS.out HM.out B7.out (S7.out.mono fun k h _ => Nat.le_trans B4.out.size h) O7.out, (four_old HV.out.four B7.out).fs, (four_old HV.out.four B7.out).ft⟩); have HROW8 := Lib.hid R8.out.1.row; have T8 : Hid (RdR w8 1 (.slice at4 T capt) T (i64s s.t)) := (by have h : RdR w8 1 (.slice at4 T capt) s.t.length (i64s s.t) := R8.out.1.four.ft.rd; rw [← HT.out] at h; exact h); have c4 : w8.cell? ⟨br, 4, none⟩ = some (.slice at4 T capt) := (by rw [HROW8.out.cell]; rfl); clear ha ho hk)
    | (at_builtin; refine wpList_append_rows (by rfl) _ _ 30 (by rfl) (.slice at4 T capt) 0 T 1 (i64s s.t) (.int .i64 0) 8 elemRI (by rfl) (by decide) (by rfl) (ownsRow_nil0 w8 w8.heap.size _ 1) (by rfl) T8.out (i64s_one _) (by omega) (by omega) (Nat.le_refl _) ?_; intro v9 w9 ho9 _ hb9; have O9 := Lib.hid ho9; have B9 := Lib.hid hb9; clear ho9 hb9)
    | (at_builtin; refine wpList_append_rows (by rfl) _ _ 30 (by rfl) (.slice (some ⟨w9.heap.size, 0, none⟩) 1 1) (0 + T) 1 1 [.int .i64 (n : Int)] (.int .i64 0) 8 elemRI (by rfl) (by decide) (by rfl) (ownsRow_below O9.out ((Below.refl _ _).alloc (Nat.le_refl _) _)) (by rfl) (by exact rdR_new (e := 3) (C := #[.int .i64 (n : Int)])) (by simp [Value.oneCell']) (by omega) (by omega) (by have h9 := B9.out.size; simp; omega) ?_; intro v11 w11 ho11 _ hb11; rw [Nat.zero_add] at ho11; have B11 := Lib.hid ((B9.out.alloc B9.out.size _).trans hb11); obtain ⟨a11, c11, rfl⟩ := rows_hd ho11; have O11 := Lib.hid ho11; clear ho11 hb11)
    | (refine Mem.wpList_store_one (by rfl) 30 _ _ (by rfl) (by rfl) br 4 (.slice a11 (T + 1) c11) (by rfl) (by rfl) (by rfl) infoInts _ 32 (HROW8.out.below B11.out R8.out.1.br) (by simp [stRow]) ?_; intro w12 ha ho hk; have R12 := Lib.hid (rv_set (n' := s.n) (s' := stWrite s n x) R8.out.1 B11.out rfl (by exact ha) ho hk ⟨(four_old R8.out.1.four B11.out).fb, (four_old R8.out.1.four B11.out).fw, (four_old R8.out.1.four B11.out).fs, wtr_snoc R8.out.1.br HT.out O11.out⟩); clear ha ho hk))
  go_ret
  exact ⟨rfl, StEnd.trans R8.out.2 grow_ext (rv_end R12.out.1 R12.out.2)⟩
end Sha
end Go.Proofs.Ytkgpcgkikenljaa
