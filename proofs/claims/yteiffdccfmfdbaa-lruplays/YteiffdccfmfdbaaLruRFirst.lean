/- The document's cache: first (written by lrufirst.py). -/
import Derived.Test.YteiffdccfmfdbaaLruRWo
import Derived.Deep.Cut
namespace Go.Proofs.Yteiffdccfmfdbaa
namespace Sha
open Go.RowKit Mem Lru
/-- The cache lies at block b and holds l. -/
def RCa (F : Foot) (b : Nat) (w : World) (room : Nat) (l : List Hd) : Prop := ∃ v z, z.map Prod.fst = l ∧ RCv F b w room v z
def LEnd (F : Foot) (b : Nat) (w : World) (room : Nat) (l : List Hd) (w' : World) : Prop := (∃ F', RCa F' b w' room l ∧ ∀ k, F' k → F k ∨ w.heap.size ≤ k) ∧ Chg (fun k => k = b) w w'
theorem lend_of {F : Foot} {b : Nat} {w w' : World} {room : Nat} {l : List Hd} {z : List Hv} (h : ZEnd F b w room z w') (e : z.map Prod.fst = l) : LEnd F b w room l w' := by
  obtain ⟨⟨F', v, h1, h2⟩, h3⟩ := h
  exact ⟨⟨F', ⟨v, z, e, h1⟩, h2⟩, h3⟩
theorem lit_own (w : World) (C : Array Value) (e : TypeId) (z : Nat) (hC : C.size = z) : (w.alloc (.cells C e)).ownsRow w.heap.size e z (.slice (some ⟨w.heap.size, 0, none⟩) 1 1) 1 C.toList := by
  exact ⟨by rw [Array.length_toList, hC, Nat.one_mul], .inr ⟨w.heap.size, 1, C, rfl, Nat.le_refl _, heap_alloc_new w _, Nat.le_refl _, by unfold maxLen; omega, by rw [hC, Nat.one_mul], by rw [Nat.one_mul, ← hC, ← Array.length_toList, List.take_length]⟩⟩
theorem szSet15 (w : World) (a : Addr) (v : Value) : (w.setCell a v).heap.size = w.heap.size := by simp [World.setCell]
/-- One less. -/
theorem wo_end {F : Foot} {b room : Nat} {v v5 : Value} {z y : List Hv} {w w5 w6 : World} (h : RCv F b w room v z) (hy : ∀ p ∈ y, p ∈ z) (hb : Below w.heap.size w w5) (hs : SlR (fun k => w.heap.size ≤ k) w5 3 v5 y.length (zC y))
    (hr : At w6 b (rcC room v5) 30) (ho : ∀ k, k ≠ b → w6.heap[k]? = w5.heap[k]?) (hb6 : Below 0 w5 w6) : RCv (grow F w w6) b w6 room v5 y ∧ Chg (fun k => k = b) w w6 := by
  have hlt := h.row.lt
  have hc : Chg (fun k => k = b) w w6 := ⟨hb6.os.trans hb.os, hb6.tape.trans hb.tape, hb6.output.trans hb.output, Nat.le_trans hb.size hb6.size, fun k hk hne => (ho k hne).trans (hb.block k hk)⟩
  refine ⟨rcv_turn h hc hr ?_ ?_, hc⟩
  · exact SlR.mono (hs.keep hb6.size fun k hk _ => ho k (by omega)) fun k hk hk2 => ⟨.inr hk, by omega⟩
  · intro q hq
    exact ((h.pages q (hy q hq)).keep hc.size fun k hk hlt => hc.block k hlt hk.2).mono fun k hk _ => ⟨.inl hk.1, hk.2⟩
/-- One more, ahead of all. -/
theorem first_end {F : Foot} {b room : Nat} {v v' : Value} {p : Hv} {z : List Hv} {wc w6 : World} {B : Nat} (h : RCv F b wc room v z) (hb : Below wc.heap.size wc w6) (hr : At w6 b (rcC room v) 30)
    (ho : w6.ownsRow B 52 3 v' (1 + z.length) ((hvC p).toArray.toList ++ zC z)) (hu : SlB (fun k => F k ∧ k ≠ b) wc p.2 p.1.page) (hB : wc.heap.size ≤ B) : ZEnd F b wc room (p :: z) (w6.setCell ⟨b, 1, none⟩ v') := by
  have hlt := h.row.lt
  have hc : Chg (fun k => k = b) wc (w6.setCell ⟨b, 1, none⟩ v') := ⟨hb.os, hb.tape, hb.output, by rw [szSet15]; exact hb.size, fun k hk hne => (heap_setCell_other w6 ⟨b, 1, none⟩ k _ hne).trans (hb.block k hk)⟩
  refine ⟨⟨_, v', rcv_turn h hc (by have := hr.set 1 v'; simpa [rcC] using this) ?_ ?_, grow_ext⟩, hc⟩
  · have h1 := ownsRow_slR ho
    have h2 : (p :: z).length = 1 + z.length := by rw [List.length_cons]; omega
    rw [h2, zC_cons]
    refine SlR.mono (h1.keep (by rw [szSet15]; exact Nat.le_refl _) fun k hk _ => heap_setCell_other w6 ⟨b, 1, none⟩ k _ (by show k ≠ b; omega)) fun k hk hk2 => ⟨.inr (Nat.le_trans hB hk), by omega⟩
  · intro q hq
    have hkeep : ∀ {u : Value} {pg : List (BitVec 8)}, SlB (fun k => F k ∧ k ≠ b) wc u pg → SlB (fun k => (F k ∨ wc.heap.size ≤ k) ∧ k ≠ b) (w6.setCell ⟨b, 1, none⟩ v') u pg := fun hs => (hs.keep hc.size fun k hk hlt => hc.block k hlt hk.2).mono fun k hk _ => ⟨.inl hk.1, hk.2⟩
    rcases List.mem_cons.1 hq with rfl | hq
    · exact hkeep hu
    · exact hkeep (h.pages q hq)
set_option maxRecDepth 100000 in
set_option maxHeartbeats 4000000 in
theorem rfirst_z {F : Foot} {b room : Nat} {v : Value} {z : List Hv} (p : Hv) (w : World) (h : RCv F b w room v z) (hz : z.length ≤ 1000000) (hu : SlB (fun k => F k ∧ k ≠ b) w p.2 p.1.page) (k0 : Option Nat) (hk0 : (match k0 with | some k => k < z.length ∧ idx p.1.item (z.map Prod.fst) 0 = (k : Int) | none => idx p.1.item (z.map Prod.fst) 0 = -1)) :
    Calls Try.prog 29 #[rq b, .agg (hvC p).toArray] w fun e w' => e = .returned (.tuple #[]) ∧ ZEnd F b w room (p :: (match k0 with | some k => z.take k ++ z.drop (k + 1) | none => z)) w' := by
  have hbb : Below w.heap.size w (w.alloc (.cells (hvC p).toArray 52)) := (Below.refl _ _).alloc (Nat.le_refl _) _
  have hnew := at_new w (hvC p).toArray 52
  have h4 := h.below hbb
  have k0c : (w.alloc (.cells (hvC p).toArray 52)).cell? ⟨w.heap.size, 0, none⟩ = some (.int .i64 p.1.item) := by rw [hnew.cell]; rfl
  have hfi := rfind_any p.1.item _ h4 hz
  have hblt := h.row.lt
  have hu4 : SlB (fun k => F k ∧ k ≠ b) (w.alloc (.cells (hvC p).toArray 52)) p.2 p.1.page := hu.keep hbb.size fun k hk hlt => hbb.block k hlt
  have hF0 : ∀ k, F k → F k ∨ w.heap.size ≤ k := fun k hk => .inl hk
  have hC0 : Chg (fun k => k = b) w (w.alloc (.cells (hvC p).toArray 52)) := Chg.of_below hbb
  have hne : w.heap.size ≠ b := by omega
  obtain ⟨g, hg⟩ : ∃ g, g = w.heap.size := ⟨_, rfl⟩
  obtain ⟨wc, hwc⟩ : ∃ wc, wc = w.alloc (.cells (hvC p).toArray 52) := ⟨_, rfl⟩
  rw [← hwc] at hnew h4 k0c hfi hu4 hC0
  rw [← hg] at hnew k0c hne
  obtain ⟨_, a1, k1, hvv, _, _⟩ := id h4.sl
  obtain ⟨n1, hn1⟩ : ∃ n1, n1 = z.length := ⟨_, rfl⟩
  rw [← hn1] at hvv
  subst hvv
  have HG := Lib.hid hg; have WC := Lib.hid hwc; have BX := Lib.hid hnew; have NE := Lib.hid hne
  cases k0 with
  | none =>
    have hk0 : idx p.1.item (z.map Prod.fst) 0 = -1 := hk0
    rw [hk0] at hfi
    show Calls _ _ _ _ fun e w' => e = .returned (.tuple #[]) ∧ ZEnd F b w room (p :: z) w'
    have RC := Lib.hid h4; have HFI := Lib.hid hfi; have HF := Lib.hid hF0; have HC := Lib.hid hC0; have UU := Lib.hid hu4; have N1E := Lib.hid hn1
    have N1 : Hid (n1 ≤ 1000000) := Lib.hid (by rw [hn1]; exact hz)
    obtain ⟨z1, hz1⟩ : ∃ z1, z1 = z := ⟨_, rfl⟩
    rw [← hz1] at RC N1E ⊢
    clear h h4 hfi hF0 hC0 hu4 hn1 hz hu hk0 hbb hnew hblt hne hg hwc hz1
    go_enter Try.func29, Try.ntmps29
    go_upto_region 1 with fail
    rw [← HG.out, ← WC.out]
    go_wp2_with (go_at_call 25; refine HFI.out.mono ?_; rintro e w2 ⟨rfl, hw2⟩; have hw3 := hw2.symm; clear hw2; subst hw3)

    have hrow := RC.out.row
    have c1 : wc.drew.cell? ⟨b, 1, none⟩ = some (.slice a1 n1 k1) := by show wc.cell? _ = _; rw [hrow.cell]; rfl
    have hal : Below wc.heap.size wc (wc.drew.alloc (.cells (hvC p).toArray 52)) := undrew15 ((Below.refl wc.heap.size wc.drew).alloc (Nat.le_refl _) _)
    have d1 : (wc.drew.alloc (.cells (hvC p).toArray 52)).cell? ⟨b, 1, none⟩ = some (.slice a1 n1 k1) := by rw [(hrow.below hal hrow.lt).cell]; rfl
    have hbx : At wc.drew g (hvC p).toArray 52 := BX.out
    have hbl := BX.out.below hal BX.out.lt
    have how := lit_own wc.drew (hvC p).toArray 52 3 (by simp [hvC])
    have hrd := (RC.out.sl.below hal).rd
    have hzo := zC_one RC.out.pages
    rw [← N1E.out] at hrd
    have C1 := Lib.hid c1; have D1 := Lib.hid d1; have BD := Lib.hid hbx; have BL := Lib.hid hbl; have OWL := Lib.hid how; have RDL := Lib.hid hrd; have ZO := Lib.hid hzo
    clear c1 d1 hbx hbl how hrd hzo hrow hal
    refine wp_region_plan_in (fun x => At x g (hvC p).toArray 52) (.take 0 (.take 1 (.take 3 (.take 4 (.take 5 (.two 2 6 (.sole 6 (.sole 7 (.take 8 (.take 9 (.sole 10 .done))))) (.sole 2 (.sole 7 (.take 8 (.take 9 (.sole 10 .done)))))))))) ) (by kernel_rfl) (by kernel_rfl) (by kernel_rfl) BD.out ?_
    (first | (refine plan_move _ _ (by rfl) (by rfl) (.inl (by rfl)) Mem.ev_a ?_) | (refine plan_move _ _ (by rfl) (by rfl) (.inr (by rfl)) Mem.ev_a ?_) | (refine plan_pick_t _ _ _ _ (by rfl) (by rfl) (by rfl) Mem.ev_a Mem.ev_a ?_) | (refine plan_pick_f _ _ _ _ (by rfl) (by rfl) (by rfl) Mem.ev_a Mem.ev_a ?_))
    (simp only [Act.put, List.setIfInBounds_toArray, List.set_cons_zero, List.set_cons_succ])
    refine plan_row 52 _ g _ (hvC p).toArray 52 (by rfl) (by rfl) (by rfl) Mem.ev_a (fun w' hw' => hw') Try.underlying52 (by rfl) (by rw [infoHd]; simp [hvC]) ?_
    (simp only [Act.put, List.setIfInBounds_toArray, List.set_cons_zero, List.set_cons_succ])
    (first | (refine plan_move _ _ (by rfl) (by rfl) (.inl (by rfl)) Mem.ev_a ?_) | (refine plan_move _ _ (by rfl) (by rfl) (.inr (by rfl)) Mem.ev_a ?_) | (refine plan_pick_t _ _ _ _ (by rfl) (by rfl) (by rfl) Mem.ev_a Mem.ev_a ?_) | (refine plan_pick_f _ _ _ _ (by rfl) (by rfl) (by rfl) Mem.ev_a Mem.ev_a ?_))
    (simp only [Act.put, List.setIfInBounds_toArray, List.set_cons_zero, List.set_cons_succ])
    refine plan_nilcheck _ ⟨b, 0, none⟩ (by rfl) (by rfl) (by rfl) Mem.ev_a ?_
    (simp only [Act.put, List.setIfInBounds_toArray, List.set_cons_zero, List.set_cons_succ])
    refine plan_field 30 _ 1 b 0 ⟨b, 1, none⟩ (by rfl) (by rfl) (by rfl) Mem.ev_a (fun wx => by go_simp) ?_
    (simp only [Act.put, List.setIfInBounds_toArray, List.set_cons_zero, List.set_cons_succ])
    refine plan_two ?_ ?_
    · refine plan_slice 28 52 1 _ (hvC p).toArray (by rfl) (by rfl) (by rfl) Try.underlying28 (by kernel_rfl) (by exact BL.out) ?_
      (simp only [Act.put, List.setIfInBounds_toArray, List.set_cons_zero, List.set_cons_succ])
      refine plan_sole_cell 28 _ _ (.slice a1 n1 k1) _ (by rfl) (by rfl) (by rfl) Mem.ev_a (by exact D1.out) Try.underlying28 (by rfl) (by exact BL.out) ?_
      (simp only [Act.put, List.setIfInBounds_toArray, List.set_cons_zero, List.set_cons_succ])
      refine plan_append_app _ _ 28 (by rfl) (by rfl) (by rfl) (.slice a1 n1 k1) 1 n1 3 (zC z1) (.agg #[.int .i64 0, .slice none 0 0, .bool false]) 40 elemHd (by rfl) (by decide) Mem.ev_a OWL.out Mem.ev_a RDL.out ZO.out (by have := N1.out; omega) (by have := N1.out; omega) (by simp) ?_
      intro v6 w6 ho6 ha6 hb6
      obtain ⟨a6, c6, rfl⟩ := rows_hd ho6
      have hb6' : Below wc.heap.size wc w6 := undrew15 (((Below.refl wc.heap.size wc.drew).alloc (Nat.le_refl _) _).trans hb6)
      have R6 : Hid (At w6 b (rcC room (.slice a1 n1 k1)) 30) := Lib.hid (RC.out.row.below hb6' RC.out.row.lt)
      have X6 : Hid (At w6 g (hvC p).toArray 52) := Lib.hid (BX.out.below hb6' BX.out.lt)
      have O6 := Lib.hid ho6; have B6 := Lib.hid hb6'
      clear ho6 ha6 hb6 hb6'
      refine ⟨X6.out, ?_⟩
      (simp only [Act.put, List.setIfInBounds_toArray, List.set_cons_zero, List.set_cons_succ])
      refine plan_nilcheck _ ⟨b, 0, none⟩ (by rfl) (by rfl) (by rfl) Mem.ev_a ?_
      (simp only [Act.put, List.setIfInBounds_toArray, List.set_cons_zero, List.set_cons_succ])
      refine plan_field 30 _ 1 b 0 ⟨b, 1, none⟩ (by rfl) (by rfl) (by rfl) Mem.ev_a (fun wx => by go_simp) ?_
      (simp only [Act.put, List.setIfInBounds_toArray, List.set_cons_zero, List.set_cons_succ])
      refine plan_store_one 28 _ _ b 1 (.slice a6 (1 + n1) c6) _ 30 (by rfl) (by rfl) (by rfl) (by rfl) Mem.ev_a Mem.ev_a (by rfl) infoHds R6.out (by simp [rcC]) (at_keep X6.out (fun k hk => heap_setCell_other w6 ⟨b, 1, none⟩ k _ hk) NE.out) ?_
      refine plan_nil ?_
      have hE := first_end (v' := .slice a6 (1 + n1) c6) RC.out B6.out R6.out (by have := O6.out; rw [N1E.out] at this ⊢; exact this) UU.out (Nat.le_refl _)
      have HE := Lib.hid (ZEnd.trans HF.out HC.out hE)
      clear hE
      go_wp2_with fail
      go_end0
      exact ⟨rfl, HE.out⟩

    · refine plan_sole_cell 28 _ _ (.slice a1 n1 k1) _ (by rfl) (by rfl) (by rfl) Mem.ev_a (by exact C1.out) Try.underlying28 (by rfl) (by exact BD.out) ?_
      (simp only [Act.put, List.setIfInBounds_toArray, List.set_cons_zero, List.set_cons_succ])
      refine plan_slice 28 52 1 _ (hvC p).toArray (by rfl) (by rfl) (by rfl) Try.underlying28 (by kernel_rfl) (by exact BL.out) ?_
      (simp only [Act.put, List.setIfInBounds_toArray, List.set_cons_zero, List.set_cons_succ])
      refine plan_append_app _ _ 28 (by rfl) (by rfl) (by rfl) (.slice a1 n1 k1) 1 n1 3 (zC z1) (.agg #[.int .i64 0, .slice none 0 0, .bool false]) 40 elemHd (by rfl) (by decide) Mem.ev_a OWL.out Mem.ev_a RDL.out ZO.out (by have := N1.out; omega) (by have := N1.out; omega) (by simp) ?_
      intro v6 w6 ho6 ha6 hb6
      obtain ⟨a6, c6, rfl⟩ := rows_hd ho6
      have hb6' : Below wc.heap.size wc w6 := undrew15 (((Below.refl wc.heap.size wc.drew).alloc (Nat.le_refl _) _).trans hb6)
      have R6 : Hid (At w6 b (rcC room (.slice a1 n1 k1)) 30) := Lib.hid (RC.out.row.below hb6' RC.out.row.lt)
      have X6 : Hid (At w6 g (hvC p).toArray 52) := Lib.hid (BX.out.below hb6' BX.out.lt)
      have O6 := Lib.hid ho6; have B6 := Lib.hid hb6'
      clear ho6 ha6 hb6 hb6'
      refine ⟨X6.out, ?_⟩
      (simp only [Act.put, List.setIfInBounds_toArray, List.set_cons_zero, List.set_cons_succ])
      refine plan_nilcheck _ ⟨b, 0, none⟩ (by rfl) (by rfl) (by rfl) Mem.ev_a ?_
      (simp only [Act.put, List.setIfInBounds_toArray, List.set_cons_zero, List.set_cons_succ])
      refine plan_field 30 _ 1 b 0 ⟨b, 1, none⟩ (by rfl) (by rfl) (by rfl) Mem.ev_a (fun wx => by go_simp) ?_
      (simp only [Act.put, List.setIfInBounds_toArray, List.set_cons_zero, List.set_cons_succ])
      refine plan_store_one 28 _ _ b 1 (.slice a6 (1 + n1) c6) _ 30 (by rfl) (by rfl) (by rfl) (by rfl) Mem.ev_a Mem.ev_a (by rfl) infoHds R6.out (by simp [rcC]) (at_keep X6.out (fun k hk => heap_setCell_other w6 ⟨b, 1, none⟩ k _ hk) NE.out) ?_
      refine plan_nil ?_
      have hE := first_end (v' := .slice a6 (1 + n1) c6) RC.out B6.out R6.out (by have := O6.out; rw [N1E.out] at this ⊢; exact this) UU.out (Nat.le_refl _)
      have HE := Lib.hid (ZEnd.trans HF.out HC.out hE)
      clear hE
      go_wp2_with fail
      go_end0
      exact ⟨rfl, HE.out⟩

  | some k =>
    obtain ⟨hk, hk0⟩ : k < z.length ∧ idx p.1.item (z.map Prod.fst) 0 = (k : Int) := hk0
    rw [hk0] at hfi
    show Calls _ _ _ _ fun e w' => e = .returned (.tuple #[]) ∧ ZEnd F b w room (p :: (z.take k ++ z.drop (k + 1))) w'
    have hwo := rwo_any k wc h4 hz hk
    have hsub : ∀ q ∈ z.take k ++ z.drop (k + 1), q ∈ z := fun q hq => (List.mem_append.1 hq).elim List.mem_of_mem_take List.mem_of_mem_drop
    have hln : (z.take k ++ z.drop (k + 1)).length ≤ 1000000 := by rw [List.length_append, List.length_take, List.length_drop]; omega
    obtain ⟨z1, hz1⟩ : ∃ z1, z1 = z.take k ++ z.drop (k + 1) := ⟨_, rfl⟩
    rw [← hz1] at hwo hsub hln ⊢
    have hkk : (0 : Int) ≤ (k : Int) := by omega
    have H4 := Lib.hid h4; have HFI := Lib.hid hfi; have HC0 := Lib.hid hC0; have U4 := Lib.hid hu4; have WO := Lib.hid hwo; have SB := Lib.hid hsub; have LN := Lib.hid hln
    clear h h4 hfi hF0 hC0 hu4 hn1 hz hu hk0 hbb hnew hblt hne hg hwc hz1 hwo hsub hln hk
    go_enter Try.func29, Try.ntmps29
    go_upto_region 1 with fail
    rw [← HG.out, ← WC.out]
    go_wp2_with (first
      | (go_at_call 25; refine HFI.out.mono ?_; rintro e w2 ⟨rfl, hw2⟩; have hw3 := hw2.symm; clear hw2; subst hw3)
      | (go_at_call 37; refine WO.out.mono ?_; rintro e w5 ⟨v5, rfl, hs5, hb5⟩; have S5 := Lib.hid hs5; have B5 := Lib.hid hb5; have V1 : Hid (v5.oneCell' = true) := Lib.hid (by obtain ⟨_, a5, c5, rfl, _⟩ := hs5; rfl); have A5 : Hid (At w5 b (rcC room (.slice a1 n1 k1)) 30) := Lib.hid (H4.out.row.below hb5 H4.out.row.lt); clear hs5 hb5)
      | (refine Mem.wpList_store_one (by rfl) 28 _ _ (by rfl) (by rfl) b 1 v5 (by rfl) (by rfl) V1.out infoHds _ 30 A5.out (by simp [rcC]) ?_; intro w8 ha ho hk; have A6 : Hid (At w8 b (rcC room v5) 30) := Lib.hid (by have := ha; simpa [rcC] using this); have O6 := Lib.hid ho; have K6 := Lib.hid hk; clear ha ho hk))
    obtain ⟨hr6, hc6⟩ := wo_end H4.out SB.out B5.out S5.out A6.out O6.out (K6.out 0 w5 (Below.refl _ _) (Nat.zero_le _))
    have hbx6 : At w8 g (hvC p).toArray 52 := BX.out.chg hc6 NE.out
    have hu6 : SlB (fun k => grow F wc w8 k ∧ k ≠ b) w8 p.2 p.1.page := (U4.out.keep hc6.size fun k hk hlt => hc6.block k hlt hk.2).mono fun k hk hlt => ⟨⟨.inl hk.1, hlt⟩, hk.2⟩
    have hF6 : ∀ k, grow F wc w8 k → F k ∨ w.heap.size ≤ k := fun k hk => hk.1.imp id fun h => Nat.le_trans HC0.out.size h
    have hC6 : Chg (fun k => k = b) w w8 := HC0.out.trans hc6 fun k hk => .inl hk
    obtain ⟨F1, hF1e⟩ : ∃ F1, F1 = grow F wc w8 := ⟨_, rfl⟩
    rw [← hF1e] at hr6 hu6 hF6
    obtain ⟨_, a9, k9, hv9, _, _⟩ := id hr6.sl
    obtain ⟨n9, hn9⟩ : ∃ n9, n9 = z1.length := ⟨_, rfl⟩
    rw [← hn9] at hv9
    subst hv9
    have RC := Lib.hid hr6; have HF := Lib.hid hF6; have HC := Lib.hid hC6; have UU := Lib.hid hu6; have N1E := Lib.hid hn9
    have N1 : Hid (n9 ≤ 1000000) := Lib.hid (by rw [hn9]; exact LN.out)
    clear BX
    have BX := Lib.hid hbx6
    clear hr6 hF6 hC6 hu6 hn9 hbx6 hc6 hF1e H4 HFI HC0 U4 WO SB LN S5 B5 V1 A5 A6 O6 K6 WC HG k0c

    have hrow := RC.out.row
    have c1 : w8.drew.cell? ⟨b, 1, none⟩ = some (.slice a9 n9 k9) := by show w8.cell? _ = _; rw [hrow.cell]; rfl
    have hal : Below w8.heap.size w8 (w8.drew.alloc (.cells (hvC p).toArray 52)) := undrew15 ((Below.refl w8.heap.size w8.drew).alloc (Nat.le_refl _) _)
    have d1 : (w8.drew.alloc (.cells (hvC p).toArray 52)).cell? ⟨b, 1, none⟩ = some (.slice a9 n9 k9) := by rw [(hrow.below hal hrow.lt).cell]; rfl
    have hbx : At w8.drew g (hvC p).toArray 52 := BX.out
    have hbl := BX.out.below hal BX.out.lt
    have how := lit_own w8.drew (hvC p).toArray 52 3 (by simp [hvC])
    have hrd := (RC.out.sl.below hal).rd
    have hzo := zC_one RC.out.pages
    rw [← N1E.out] at hrd
    have C1 := Lib.hid c1; have D1 := Lib.hid d1; have BD := Lib.hid hbx; have BL := Lib.hid hbl; have OWL := Lib.hid how; have RDL := Lib.hid hrd; have ZO := Lib.hid hzo
    clear c1 d1 hbx hbl how hrd hzo hrow hal
    refine wp_region_plan_in (fun x => At x g (hvC p).toArray 52) (.take 0 (.take 1 (.take 3 (.take 4 (.take 5 (.two 2 6 (.sole 6 (.sole 7 (.take 8 (.take 9 (.sole 10 .done))))) (.sole 2 (.sole 7 (.take 8 (.take 9 (.sole 10 .done)))))))))) ) (by kernel_rfl) (by kernel_rfl) (by kernel_rfl) BD.out ?_
    (first | (refine plan_move _ _ (by rfl) (by rfl) (.inl (by rfl)) Mem.ev_a ?_) | (refine plan_move _ _ (by rfl) (by rfl) (.inr (by rfl)) Mem.ev_a ?_) | (refine plan_pick_t _ _ _ _ (by rfl) (by rfl) (by rfl) Mem.ev_a Mem.ev_a ?_) | (refine plan_pick_f _ _ _ _ (by rfl) (by rfl) (by rfl) Mem.ev_a Mem.ev_a ?_))
    (simp only [Act.put, List.setIfInBounds_toArray, List.set_cons_zero, List.set_cons_succ])
    refine plan_row 52 _ g _ (hvC p).toArray 52 (by rfl) (by rfl) (by rfl) Mem.ev_a (fun w' hw' => hw') Try.underlying52 (by rfl) (by rw [infoHd]; simp [hvC]) ?_
    (simp only [Act.put, List.setIfInBounds_toArray, List.set_cons_zero, List.set_cons_succ])
    (first | (refine plan_move _ _ (by rfl) (by rfl) (.inl (by rfl)) Mem.ev_a ?_) | (refine plan_move _ _ (by rfl) (by rfl) (.inr (by rfl)) Mem.ev_a ?_) | (refine plan_pick_t _ _ _ _ (by rfl) (by rfl) (by rfl) Mem.ev_a Mem.ev_a ?_) | (refine plan_pick_f _ _ _ _ (by rfl) (by rfl) (by rfl) Mem.ev_a Mem.ev_a ?_))
    (simp only [Act.put, List.setIfInBounds_toArray, List.set_cons_zero, List.set_cons_succ])
    refine plan_nilcheck _ ⟨b, 0, none⟩ (by rfl) (by rfl) (by rfl) Mem.ev_a ?_
    (simp only [Act.put, List.setIfInBounds_toArray, List.set_cons_zero, List.set_cons_succ])
    refine plan_field 30 _ 1 b 0 ⟨b, 1, none⟩ (by rfl) (by rfl) (by rfl) Mem.ev_a (fun wx => by go_simp) ?_
    (simp only [Act.put, List.setIfInBounds_toArray, List.set_cons_zero, List.set_cons_succ])
    refine plan_two ?_ ?_
    · refine plan_slice 28 52 1 _ (hvC p).toArray (by rfl) (by rfl) (by rfl) Try.underlying28 (by kernel_rfl) (by exact BL.out) ?_
      (simp only [Act.put, List.setIfInBounds_toArray, List.set_cons_zero, List.set_cons_succ])
      refine plan_sole_cell 28 _ _ (.slice a9 n9 k9) _ (by rfl) (by rfl) (by rfl) Mem.ev_a (by exact D1.out) Try.underlying28 (by rfl) (by exact BL.out) ?_
      (simp only [Act.put, List.setIfInBounds_toArray, List.set_cons_zero, List.set_cons_succ])
      refine plan_append_app _ _ 28 (by rfl) (by rfl) (by rfl) (.slice a9 n9 k9) 1 n9 3 (zC z1) (.agg #[.int .i64 0, .slice none 0 0, .bool false]) 40 elemHd (by rfl) (by decide) Mem.ev_a OWL.out Mem.ev_a RDL.out ZO.out (by have := N1.out; omega) (by have := N1.out; omega) (by simp) ?_
      intro v6 w6 ho6 ha6 hb6
      obtain ⟨a6, c6, rfl⟩ := rows_hd ho6
      have hb6' : Below w8.heap.size w8 w6 := undrew15 (((Below.refl w8.heap.size w8.drew).alloc (Nat.le_refl _) _).trans hb6)
      have R6 : Hid (At w6 b (rcC room (.slice a9 n9 k9)) 30) := Lib.hid (RC.out.row.below hb6' RC.out.row.lt)
      have X6 : Hid (At w6 g (hvC p).toArray 52) := Lib.hid (BX.out.below hb6' BX.out.lt)
      have O6 := Lib.hid ho6; have B6 := Lib.hid hb6'
      clear ho6 ha6 hb6 hb6'
      refine ⟨X6.out, ?_⟩
      (simp only [Act.put, List.setIfInBounds_toArray, List.set_cons_zero, List.set_cons_succ])
      refine plan_nilcheck _ ⟨b, 0, none⟩ (by rfl) (by rfl) (by rfl) Mem.ev_a ?_
      (simp only [Act.put, List.setIfInBounds_toArray, List.set_cons_zero, List.set_cons_succ])
      refine plan_field 30 _ 1 b 0 ⟨b, 1, none⟩ (by rfl) (by rfl) (by rfl) Mem.ev_a (fun wx => by go_simp) ?_
      (simp only [Act.put, List.setIfInBounds_toArray, List.set_cons_zero, List.set_cons_succ])
      refine plan_store_one 28 _ _ b 1 (.slice a6 (1 + n9) c6) _ 30 (by rfl) (by rfl) (by rfl) (by rfl) Mem.ev_a Mem.ev_a (by rfl) infoHds R6.out (by simp [rcC]) (at_keep X6.out (fun k hk => heap_setCell_other w6 ⟨b, 1, none⟩ k _ hk) NE.out) ?_
      refine plan_nil ?_
      have hE := first_end (v' := .slice a6 (1 + n9) c6) RC.out B6.out R6.out (by have := O6.out; rw [N1E.out] at this ⊢; exact this) UU.out (Nat.le_refl _)
      have HE := Lib.hid (ZEnd.trans HF.out HC.out hE)
      clear hE
      go_wp2_with fail
      go_end0
      exact ⟨rfl, HE.out⟩

    · refine plan_sole_cell 28 _ _ (.slice a9 n9 k9) _ (by rfl) (by rfl) (by rfl) Mem.ev_a (by exact C1.out) Try.underlying28 (by rfl) (by exact BD.out) ?_
      (simp only [Act.put, List.setIfInBounds_toArray, List.set_cons_zero, List.set_cons_succ])
      refine plan_slice 28 52 1 _ (hvC p).toArray (by rfl) (by rfl) (by rfl) Try.underlying28 (by kernel_rfl) (by exact BL.out) ?_
      (simp only [Act.put, List.setIfInBounds_toArray, List.set_cons_zero, List.set_cons_succ])
      refine plan_append_app _ _ 28 (by rfl) (by rfl) (by rfl) (.slice a9 n9 k9) 1 n9 3 (zC z1) (.agg #[.int .i64 0, .slice none 0 0, .bool false]) 40 elemHd (by rfl) (by decide) Mem.ev_a OWL.out Mem.ev_a RDL.out ZO.out (by have := N1.out; omega) (by have := N1.out; omega) (by simp) ?_
      intro v6 w6 ho6 ha6 hb6
      obtain ⟨a6, c6, rfl⟩ := rows_hd ho6
      have hb6' : Below w8.heap.size w8 w6 := undrew15 (((Below.refl w8.heap.size w8.drew).alloc (Nat.le_refl _) _).trans hb6)
      have R6 : Hid (At w6 b (rcC room (.slice a9 n9 k9)) 30) := Lib.hid (RC.out.row.below hb6' RC.out.row.lt)
      have X6 : Hid (At w6 g (hvC p).toArray 52) := Lib.hid (BX.out.below hb6' BX.out.lt)
      have O6 := Lib.hid ho6; have B6 := Lib.hid hb6'
      clear ho6 ha6 hb6 hb6'
      refine ⟨X6.out, ?_⟩
      (simp only [Act.put, List.setIfInBounds_toArray, List.set_cons_zero, List.set_cons_succ])
      refine plan_nilcheck _ ⟨b, 0, none⟩ (by rfl) (by rfl) (by rfl) Mem.ev_a ?_
      (simp only [Act.put, List.setIfInBounds_toArray, List.set_cons_zero, List.set_cons_succ])
      refine plan_field 30 _ 1 b 0 ⟨b, 1, none⟩ (by rfl) (by rfl) (by rfl) Mem.ev_a (fun wx => by go_simp) ?_
      (simp only [Act.put, List.setIfInBounds_toArray, List.set_cons_zero, List.set_cons_succ])
      refine plan_store_one 28 _ _ b 1 (.slice a6 (1 + n9) c6) _ 30 (by rfl) (by rfl) (by rfl) (by rfl) Mem.ev_a Mem.ev_a (by rfl) infoHds R6.out (by simp [rcC]) (at_keep X6.out (fun k hk => heap_setCell_other w6 ⟨b, 1, none⟩ k _ hk) NE.out) ?_
      refine plan_nil ?_
      have hE := first_end (v' := .slice a6 (1 + n9) c6) RC.out B6.out R6.out (by have := O6.out; rw [N1E.out] at this ⊢; exact this) UU.out (Nat.le_refl _)
      have HE := Lib.hid (ZEnd.trans HF.out HC.out hE)
      clear hE
      go_wp2_with fail
      go_end0
      exact ⟨rfl, HE.out⟩

end Sha
end Go.Proofs.Yteiffdccfmfdbaa
