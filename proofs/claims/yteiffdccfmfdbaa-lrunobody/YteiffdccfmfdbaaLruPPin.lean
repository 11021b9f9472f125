/- The program's cache: Pinned, by the kit's contracts on slices.Sorted of maps.Keys. -/
import Derived.Test.YteiffdccfmfdbaaLruPMore
import Derived.Test.YteiffdccfmfdbaaLruLay2
namespace Go.Proofs.Yteiffdccfmfdbaa
namespace Sha
open Go.RowKit Mem Lru Go.Maps Go.Sort Go.Shelf
theorem pSorts (m : Nat) : AnyZI.SortsIn Try.prog lSorted_ren Fence.wide m :=
  ⟨fun blk off cap ss W hH hblk hsz => callsIn_wide.2 (AnyM.slices_Sort_int lSort blk off cap ss W hH hblk hsz),
   fun p cap W => callsIn_wide.2 (AnyM.slices_Sort_int_none lSort p cap W)⟩
def sortI (l : List Int) : List Int := l.mergeSort (fun x y => decide (x ≤ y))
set_option maxRecDepth 100000 in
set_option maxHeartbeats 1000000 in
theorem cpinned_any {F : Foot} {b room n : Nat} {l : List Hd} (w : World) (h : PCa F b w room n l) (hn : n ≤ 100000) : Calls Try.prog 26 #[cq b] w fun e w' => ∃ v, e = .returned v ∧ OwnI w' w.heap.size v (sortI (items (pns l))) ∧ Below w.heap.size w w' := by
  obtain ⟨⟨bm, bp, v, f, hv⟩, ok, _, _⟩ := h
  have c2 : w.cell? ⟨b, 2, none⟩ = some (.map (some bp)) := by rw [hv.row.cell]; rfl
  obtain ⟨D0, hown, hperm, hsz⟩ := hv.mp.keys uInt (pns_nodup ok.nd) fun x => mem_pns ok.nd x
  have hle : (items (pns l)).length ≤ 100000 := by
    have h1 := ok.len
    have h2 := len_parts l
    simp [items]
    omega
  have hmax : Maps.size D0 ≤ maxLen := by rw [hsz]; unfold maxLen; omega
  have hbytes : Maps.size D0 * 8 ≤ 140737488355328 := by rw [hsz]; omega
  refine (callsIn_wide (n := 6)).1 ?_
  have hbl := hown.lt
  have hseq : SeqGives Fence.wide 2 Try.prog 46 #[.pointer (some ⟨w.heap.size, 0, none⟩)] encZ (fun ss => ss.Perm (intKeys D0)) (Maps.size D0) (w.alloc (.cells #[.map (some bp)] 57)) :=
    AnyZI.keys_gives (ρ := lKeys_ren) { lKeys with } Fence.wide _ trivial rfl (by omega) w.heap.size bp n D0 _ (by simp) (by simp) (by
      obtain ⟨es, clock, hb, Ft, hs, hD⟩ := hown
      exact ⟨es, clock, (Below.heap_alloc _ _ bp hbl).trans hb, Ft, hs, hD⟩)
  have cK : ∀ mb W, CallsIn Fence.wide 5 Try.prog 41 #[.map mb] W fun e w' => e = .returned (.func (.func 46) #[] #[.pointer (some ⟨W.heap.size, 0, none⟩)]) ∧ w' = W.alloc (.cells #[.map mb] 57) := fun mb W => AnyZI.keys_in lKeys Fence.wide 5 trivial rfl mb W
  have cS := AnyZI.sorted_in lSorted Fence.wide 5 trivial trivial trivial trivial rfl (by omega) (pSorts _) (enters_of Try.func45 (by kernel_rfl) rfl) 46 #[.pointer (some ⟨w.heap.size, 0, none⟩)] trivial (enters_of Try.func46 (by kernel_rfl) rfl) _ _ hmax hbytes _ hseq
  change CallsIn _ _ Try.prog 40 _ _ _ at cS
  have CK := Lib.hid cK; have CS := Lib.hid cS; have HP := Lib.hid hperm
  clear cK cS hseq hv hown hperm hsz hmax hbytes hbl ok hle
  have hfK : Fence.wide.fn 41 := trivial
  have hfS : Fence.wide.fn 40 := trivial
  refine callsIn_of_wp Try.func26 rfl trivial ?_ rfl
  simp only [Try.ntmps26, List.size_toArray, List.length_cons, List.length_nil, Nat.reduceAdd, Nat.reduceSub, Array.replicate_succ, Array.replicate_zero, List.push_toArray, List.append_toArray, List.nil_append, List.cons_append]
  gi_wp2_with (first
    | (gi_at_call 41; refine (CK.out _ _).mono ?_; rintro e w' ⟨rfl, rfl⟩)
    | (gi_at_call 40; refine CS.out.mono ?_; rintro e w' ⟨v9, ss, rfl, hS, hrow, _, hb⟩))
  go_ret
  have e1 : ss.mergeSort (fun x y => decide (x ≤ y)) = sortI (items (pns l)) := mergeSort_of_perm_i (hS.trans HP.out.symm)
  have e2 : ss.length = (sortI (items (pns l))).length := by rw [← e1]; simp
  rw [e1, e2] at hrow
  refine ⟨v9, rfl, ?_, ((Below.refl _ w).alloc (Nat.le_refl _) _).trans (hb.mono (by simp))⟩
  show World.ownsRow _ w.heap.size 3 1 _ (iz (sortI (items (pns l)))).length (iz (sortI (items (pns l))))
  rw [iz_length]
  exact ownsRow_base_a hrow (by simp)
end Sha
end Go.Proofs.Yteiffdccfmfdbaa
