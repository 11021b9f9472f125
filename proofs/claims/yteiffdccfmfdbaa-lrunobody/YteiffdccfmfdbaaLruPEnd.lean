/- The program's cache: New, Order, Len. -/
import Derived.Test.YteiffdccfmfdbaaLruPMore
namespace Go.Proofs.Yteiffdccfmfdbaa
namespace Sha
open Go.RowKit Mem Lru
set_option maxRecDepth 100000 in
set_option maxHeartbeats 1000000 in
theorem cnew_bad (z : Int) (w : World) (h : ¬ (1 ≤ z ∧ z ≤ 1024)) : Calls Try.prog 7 #[.int .i64 z] w fun e w' => e = .returned (.tuple #[.pointer none, .int .i64 1]) ∧ w' = w := by
  by_cases g1 : z < 1
  · clear h
    go_enter Try.func7, Try.ntmps7
    go_wp2_with fail
    go_ret2
    exact ⟨rfl, rfl⟩
  · have g2 : z > 1024 := by omega
    clear h
    go_enter Try.func7, Try.ntmps7
    go_wp2_with fail
    go_ret2
    exact ⟨rfl, rfl⟩
theorem buildCa (room : Int) (bm bp : Nat) (w : World) : (Instr.build 59 #[(0, .int .i64 room), (1, .map (some bm)), (2, .map (some bp))]).run Try.prog w = .ok (.agg #[.int .i64 room, .map (some bm), .map (some bp), .slice none 0 0]) w := by kernel_rfl
set_option maxRecDepth 100000 in
set_option maxHeartbeats 2000000 in
theorem cnew_any (room : Nat) (w : World) (h1 : 1 ≤ room) (h2 : room ≤ 1024) : Calls Try.prog 7 #[.int .i64 (room : Int)] w fun e w' => ∃ b F, e = .returned (.tuple #[cq b, .int .i64 0]) ∧ PCa F b w' room 0 [] ∧ (∀ k, F k → w.heap.size ≤ k) ∧ Below w.heap.size w w' := by
  have g1 : ¬ (room : Int) < 1 := by omega
  have g2 : ¬ (room : Int) > 1024 := by omega
  have hm1 := (mapV_made w Try.prog 3)
  have hm2 := (mapV_made (w.alloc (.map #[] 0)) Try.prog 3)
  have hm1' := (hm1.alloc (.map #[] 0)).alloc (.cells (pcC room w.heap.size (w.heap.size + 1) (.slice none 0 0)) 59)
  have hm2' := hm2.alloc (.cells (pcC room w.heap.size (w.heap.size + 1) (.slice none 0 0)) 59)
  have hrow := at_new ((w.alloc (.map #[] 0)).alloc (.map #[] 0)) (pcC room w.heap.size (w.heap.size + 1) (.slice none 0 0)) 59
  have hb : Below w.heap.size w (((w.alloc (.map #[] 0)).alloc (.map #[] 0)).alloc (.cells (pcC room w.heap.size (w.heap.size + 1) (.slice none 0 0)) 59)) := (((Below.refl _ _).alloc (Nat.le_refl _) _).alloc (by simp <;> omega) _).alloc (by simp <;> omega) _
  have hs1 : (w.alloc (.map #[] 0)).heap.size = w.heap.size + 1 := by simp
  have hs2 : ((w.alloc (.map #[] 0)).alloc (.map #[] 0)).heap.size = w.heap.size + 1 + 1 := by simp
  rw [hs1] at hm2'
  rw [hs2] at hrow
  have M1 := Lib.hid hm1'; have M2 := Lib.hid hm2'; have RW := Lib.hid hrow; have BW := Lib.hid hb; have R1 := Lib.hid h1; have R2 := Lib.hid h2
  clear hm1 hm2 hm1' hm2' hrow hb hs1 hs2 h1 h2
  go_enter Try.func7, Try.ntmps7
  go_wp2_with (first
    | (refine wpList_mapV_made (by rfl) 54 (by rfl) ?_)
    | (refine wpList_mapV_made (by rfl) 57 (by rfl) ?_)
    | fail)
  go_ret2
  refine ⟨_, rfl, fun k => w.heap.size ≤ k ∧ k < w.heap.size + 3, ⟨⟨w.heap.size, w.heap.size + 1, .slice none 0 0, fun _ => none, ⟨RW.out, M1.out, M2.out.ext fun x => ?_, ownI_nil _ _, fun x u hu => (by cases hu), fun x => ?_, by omega, ⟨by omega, by omega⟩, ⟨by omega, by omega⟩, ⟨by omega, by omega⟩, fun k hk => by simp [Value.ownBlock] at hk, fun k hk => ?_⟩⟩, ok_nil, R1.out, R2.out⟩, fun k hk => hk.1, BW.out⟩
  · simp [unitF, pinOf, lkH]
  · simp [pgOf, lkH]
  · have := hk.2
    simp
    omega
set_option maxRecDepth 100000 in
set_option maxHeartbeats 1000000 in
theorem clen_any {F : Foot} {b room n : Nat} {l : List Hd} (w : World) (h : PCa F b w room n l) : Calls Try.prog 22 #[cq b] w fun e w' => e = .returned (.int .i64 (l.length : Int)) ∧ w' = w := by
  obtain ⟨⟨bm, bp, v, f, hv⟩, ok, _, _⟩ := h
  have c1 : w.cell? ⟨b, 1, none⟩ = some (.map (some bm)) := by rw [hv.row.cell]; rfl
  have hl : l.length = (items l).length := by simp [items]
  rw [hl]
  have H := Lib.hid hv; have OK := Lib.hid ok
  clear hv ok hl
  go_enter Try.func22, Try.ntmps22
  go_wp2_with (at_len; refine wpList_mapV_len (by rfl) 54 _ (by rfl) 32 H.out.mm (by rfl) uInt uPg (items l) OK.out.nd (fun x => mem_pgs l H.out.same x) ?_)
  go_ret
  exact ⟨rfl, rfl⟩
set_option maxRecDepth 100000 in
set_option maxHeartbeats 1000000 in
theorem corder_any {F : Foot} {b room n : Nat} {l : List Hd} (w : World) (h : PCa F b w room n l) (hn : n ≤ 100000) : Calls Try.prog 21 #[cq b] w fun e w' => ∃ v, e = .returned v ∧ OwnI w' w.heap.size v (items l) ∧ Below w.heap.size w w' := by
  obtain ⟨⟨bm, bp, v, f, hv⟩, ok, _, _⟩ := h
  have c3 : w.cell? ⟨b, 3, none⟩ = some v := by rw [hv.row.cell]; rfl
  have hcl := pcloneI_any (osOf l) v w (ownV_sli hv.own) (by rw [osOf_len]; have := ok.len; omega)
  obtain ⟨a, c, rfl⟩ := rows_hd hv.own
  have CL := Lib.hid hcl
  clear hcl hv ok hn
  go_enter Try.func21, Try.ntmps21
  go_wp2_with fail
  refine CL.out.mono ?_
  rintro e w2 ⟨v2, rfl, ho, hb⟩
  have hr := prevI_any (osOf l) v2 w2 ho
  have e1 : (osOf l).reverse = items l := by simp [osOf]
  rw [e1] at hr
  have hlt := World.ownsRow.lt ho
  have HR := Lib.hid hr; have B2 := Lib.hid hb; have LT := Lib.hid hlt
  obtain ⟨a2, c2, hvv⟩ := rows_hd ho
  have HV := Lib.hid hvv
  clear hr hb ho hlt CL c3 e1 hvv
  rw [HV.out] at HR LT ⊢
  go_wp2_with (go_at_call 39; refine HR.out.mono ?_; rintro e w3 ⟨rfl, ho3, ht3⟩; have O3 := Lib.hid ho3; have T3 := Lib.hid ht3; clear ho3 ht3)
  go_ret
  exact ⟨_, rfl, O3.out, T3.out.chg.below B2.out (fun k hk => (LT.out k hk).1) B2.out.size⟩
end Sha
end Go.Proofs.Yteiffdccfmfdbaa
