/- The program's cache: Has, isPinned, unlist, use. -/
import Derived.Test.YteiffdccfmfdbaaLruPAcc
namespace Go.Proofs.Yteiffdccfmfdbaa
namespace Sha
open Go.RowKit Mem
def unl (x : Int) (os : List Int) : List Int := os.filter fun y => !decide (y = x)
theorem unl_not {x : Int} {os : List Int} (h : x ∉ os) : unl x os = os := by
  unfold unl
  rw [List.filter_eq_self]
  intro y hy
  have : y ≠ x := fun e => h (e ▸ hy)
  simp [this]
theorem idx_cases (x : Int) : ∀ (os : List Int) (i : Nat), os.Nodup → (x ∉ os ∧ Lib.idxFrom os x i = -1) ∨ ∃ k, k < os.length ∧ Lib.idxFrom os x i = ((i + k : Nat) : Int) ∧ os.take k ++ os.drop (k + 1) = unl x os
  | [], i, _ => .inl ⟨by simp, rfl⟩
  | y :: os, i, hn => by
    have hn' : y ∉ os ∧ os.Nodup := by simpa using hn
    by_cases e : y = x
    · subst e
      refine .inr ⟨0, by simp, by simp [Lib.idxFrom], ?_⟩
      have : unl y (y :: os) = unl y os := by simp [unl]
      rw [this, unl_not hn'.1]
      simp
    · have hx : Lib.idxFrom (y :: os) x i = Lib.idxFrom os x (i + 1) := by simp [Lib.idxFrom, e]
      have hu : unl x (y :: os) = y :: unl x os := by simp [unl, e]
      rcases idx_cases x os (i + 1) hn'.2 with ⟨h1, h2⟩ | ⟨k, h1, h2, h3⟩
      · exact .inl ⟨by simp [h1, Ne.symm e], hx.trans h2⟩
      · refine .inr ⟨k + 1, by simpa using h1, hx.trans (h2.trans (by congr 1; omega)), ?_⟩
        rw [hu, ← h3]
        simp
theorem infoSlI : (Try.prog.info? 47).map (·.size) = some 1 := by kernel_rfl
set_option maxRecDepth 100000 in
set_option maxHeartbeats 1000000 in
theorem phas_raw {F : Foot} {b room n : Nat} {pg : Int → Option (List (BitVec 8))} {pn : Int → Bool} {os : List Int} (x : Int) (w : World) (h : PRaw F b w room n pg pn os) (hx : wfI x) : Calls Try.prog 24 #[cq b, .int .i64 x] w fun e w' => e = .returned (.bool (pg x).isSome) ∧ w' = w := by
  obtain ⟨bm, bp, v, f, h⟩ := h
  have c1 : w.cell? ⟨b, 1, none⟩ = some (.map (some bm)) := by rw [h.row.cell]; rfl
  have hq := h.same x
  obtain ⟨u, hu⟩ : ∃ u, (f x).getD (.slice none 0 0) = u := ⟨_, rfl⟩
  obtain ⟨q, hqq⟩ : ∃ q, (pg x).isSome = q := ⟨_, rfl⟩
  rw [hqq] at hq ⊢
  have H := Lib.hid h; have HX := Lib.hid hx; have HU := Lib.hid hu; have HQ := Lib.hid hq
  clear h hx hu hq hqq
  go_enter Try.func24, Try.ntmps24
  go_wp2_with (at_lookup; refine wpList_mapV_look_ok (by rfl) 54 _ _ (by rfl) 32 H.out.mm x (by rfl) (by rfl) uInt uPg (.slice none 0 0) (zeroSB _) HX.out u HU.out q HQ.out ?_)
  go_ret
  exact ⟨rfl, rfl⟩
set_option maxRecDepth 100000 in
set_option maxHeartbeats 1000000 in
theorem pisp_raw {F : Foot} {b room n : Nat} {pg : Int → Option (List (BitVec 8))} {pn : Int → Bool} {os : List Int} (x : Int) (w : World) (h : PRaw F b w room n pg pn os) (hx : wfI x) : Calls Try.prog 33 #[cq b, .int .i64 x] w fun e w' => e = .returned (.bool (pn x)) ∧ Below w.heap.size w w' := by
  obtain ⟨bm, bp, v, f, h⟩ := h
  have c2 : w.cell? ⟨b, 2, none⟩ = some (.map (some bp)) := by rw [h.row.cell]; rfl
  obtain ⟨q, hq⟩ : ∃ q, (unitF pn x).isSome = q := ⟨_, rfl⟩
  have e1 : pn x = q := (unitF_some pn x).symm.trans hq
  rw [e1]
  have ha : Below w.heap.size w (w.alloc (.cells #[] 69)) := (Below.refl _ _).alloc (Nat.le_refl _) _
  have H := Lib.hid h; have HX := Lib.hid hx; have HQ := Lib.hid hq; have BA := Lib.hid ha
  clear h hx hq e1 ha
  go_enter Try.func33, Try.ntmps33
  go_wp2_with (at_lookup; refine wpList_mapV_look_ok (by rfl) 57 _ _ (by rfl) 69 H.out.mp x (by rfl) (by rfl) uInt uPn (.agg #[]) (zeroUn _) HX.out (.agg #[]) (unitF_get _ _) q HQ.out ?_)
  go_ret
  exact ⟨rfl, BA.out⟩
/-- The order's slice was turned in its place, and laid into the box anew. -/
theorem unlist_end {F : Foot} {b : Nat} {w w5 w6 : World} {room bm bp n : Nat} {v v' : Value} {f : Int → Option Value} {pg : Int → Option (List (BitVec 8))} {pn : Int → Bool} {os os' : List Int} (h : PCv F b w room bm bp v n f pg pn os)
    (hb5 : Below 0 w w5) (hk5 : ∀ k, k < w.heap.size → v.ownBlock ≠ some k → w5.heap[k]? = w.heap[k]?) (ho : OwnI w5 0 v' os') (hv : ∀ k, v'.ownBlock = some k → v.ownBlock = some k ∨ w.heap.size ≤ k)
    (ha : At w6 b (pcC room bm bp v') 59) (ho6 : ∀ k, k ≠ b → w6.heap[k]? = w5.heap[k]?) (hb6 : Below 0 w5 w6) : REnd F b w room n pg pn os' w6 := by
  have hnb : v.ownBlock ≠ some b := own_ne_at h.own h.row (by decide)
  have hnm : v.ownBlock ≠ some bm := h.mm.ne_own h.own
  have hnp : v.ownBlock ≠ some bp := h.mp.ne_own h.own
  have bnm : bm ≠ b := h.mm.ne_at h.row
  have bnp : bp ≠ b := h.mp.ne_at h.row
  have hnb' : v'.ownBlock ≠ some b := fun e => (hv b e).elim hnb fun h1 => by have := h.row.lt; omega
  refine pc_turn h (hb5.trans hb6) (fun k hk h1 _ _ h4 => (ho6 k h1).trans (hk5 k hk h4)) ha
    (h.mm.same ((ho6 bm bnm).trans (hk5 bm h.mm.lt hnm))) (h.mp.same ((ho6 bp bnp).trans (hk5 bp h.mp.lt hnp))) (ownsRow_keep ho fun g hg => ho6 g fun e => hnb' (by rw [← e]; exact hg)) hv (fun x u hu => .inl ⟨hu, rfl⟩) h.same
set_option maxRecDepth 100000 in
set_option maxHeartbeats 2000000 in
theorem punl_raw {F : Foot} {b room n : Nat} {pg : Int → Option (List (BitVec 8))} {pn : Int → Bool} {os : List Int} (x : Int) (w : World) (h : PRaw F b w room n pg pn os) (hn : os.Nodup) : Calls Try.prog 36 #[cq b, .int .i64 x] w fun e w' => e = .returned (.tuple #[]) ∧ REnd F b w room n pg pn (unl x os) w' := by
  obtain ⟨bm, bp, v, f, h⟩ := h
  have c3 : w.cell? ⟨b, 3, none⟩ = some v := by rw [h.row.cell]; rfl
  have hI := pidx_any os x v w (ownV_sli h.own) (by have := OwnI.len h.own; have := maxLen_le; omega)
  have hD := pdelI_any (B := 0) os
  rcases idx_cases x os 0 hn with ⟨h1, h2⟩ | ⟨k, h1, h2, h3⟩
  · have e1 : Lib.idxOf os x = -1 := h2
    rw [e1] at hI
    rw [unl_not h1]
    have H := Lib.hid h; have HI := Lib.hid hI
    obtain ⟨a, c, rfl⟩ := rows_hd h.own
    clear h hI hD h2 e1 hn h1
    go_enter Try.func36, Try.ntmps36
    go_wp2_with (go_at_call 42; refine HI.out.mono ?_; rintro e w2 ⟨rfl, rfl⟩)
    go_end0
    exact ⟨rfl, rend_same ⟨bm, bp, _, f, H.out⟩ (Below.refl _ _)⟩
  · have e1 : Lib.idxOf os x = (k : Int) := by rw [Nat.zero_add] at h2; exact h2
    have hD := hD k v w h.own h1
    rw [e1] at hI
    rw [h3] at hD
    have hlen := OwnI.len h.own
    have hml := maxLen_le
    have H := Lib.hid h; have HI := Lib.hid hI; have HD := Lib.hid hD
    obtain ⟨a, c, hvv⟩ := rows_hd h.own
    have hkb : k < 9223372036854775807 := by omega
    have hk0 : (0 : Int) ≤ (k : Int) := by omega
    have HV := Lib.hid hvv
    clear h hI hD h2 e1 hn h1 h3 hlen hml hvv
    go_enter Try.func36, Try.ntmps36
    rw [HV.out] at c3 HI HD H
    go_wp2_with (first
      | (go_at_call 42; refine HI.out.mono ?_; rintro e w2 ⟨rfl, rfl⟩)
      | (go_at_call 43; refine HD.out.mono ?_; rintro e w5 ⟨v5, rfl, hvb, ho5, ht5⟩; have A5 : Hid (At w5 b (pcC room bm bp (.slice a (iz os).length c)) 59) := Lib.hid (at_same H.out.row (ht5.chg.block b H.out.row.lt (own_ne_at H.out.own H.out.row (by decide)))); have VB5 := Lib.hid hvb; have O5 := Lib.hid ho5; have T5 := Lib.hid ht5; have V1 : Hid (v5.oneCell' = true) := Lib.hid (by obtain ⟨a5, c5, rfl⟩ := rows_hd ho5; rfl); clear hvb ho5 ht5 c3)
      | (refine Mem.wpList_store_one (by rfl) 47 _ _ (by rfl) (by rfl) b 3 v5 (by rfl) (by rfl) V1.out infoSlI _ 59 A5.out (by simp [pcC]) ?_; intro w6 ha ho hk; have A6 : Hid (At w6 b (pcC room bm bp v5) 59) := Lib.hid (by have := ha; simpa [pcC] using this); have O6 := Lib.hid ho; have K6 := Lib.hid hk; clear ha ho hk))
    go_end0
    refine ⟨rfl, unlist_end H.out ⟨T5.out.chg.os, T5.out.chg.tape, T5.out.chg.output, T5.out.chg.size, fun k hk => absurd hk (Nat.not_lt_zero _)⟩ (fun k hk hne => T5.out.chg.block k hk hne) O5.out (fun k hk => .inl (VB5.out ▸ hk)) A6.out O6.out (K6.out 0 w5 (Below.refl _ _) (Nat.zero_le _))⟩
end Sha
end Go.Proofs.Yteiffdccfmfdbaa
