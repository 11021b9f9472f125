/- The document's cache: by what it holds; fit, Drop, is. -/
import Derived.Test.YteiffdccfmfdbaaLruRFirst
namespace Go.Proofs.Yteiffdccfmfdbaa
namespace Sha
open Go.RowKit Mem Lru
theorem wo_rest : ∀ {l : List Hd} {j : Nat} {g : Hd}, (items l).Nodup → l[j]? = some g → l.take j ++ l.drop (j + 1) = rsH l g.item
  | [], j, g, _, h => by simp at h
  | x :: l, 0, g, hn, h => by
    have : x = g := by simpa using h
    subst this
    have hn' : x.item ∉ items l ∧ (items l).Nodup := by simpa [items] using hn
    have : rsH (x :: l) x.item = rsH l x.item := by simp [rsH]
    rw [this, rest_of_not hn'.1]
    simp
  | x :: l, j + 1, g, hn, h => by
    have h' : l[j]? = some g := by simpa using h
    have hn' : x.item ∉ items l ∧ (items l).Nodup := by simpa [items] using hn
    have hx : ¬ x.item = g.item := fun e => hn'.1 (mem_items.2 ⟨g, List.mem_of_getElem? h', e.symm⟩)
    have : rsH (x :: l) g.item = x :: rsH l g.item := by simp [rsH, hx]
    rw [this, ← wo_rest hn'.2 h']
    simp
theorem RCa.below {F : Foot} {b : Nat} {w w' : World} {room : Nat} {l : List Hd} (h : RCa F b w room l) (hb : Below w.heap.size w w') : RCa F b w' room l := by
  obtain ⟨v, z, e, h⟩ := h
  exact ⟨v, z, e, h.below hb⟩
theorem LEnd.trans {F F1 : Foot} {b : Nat} {w w1 w2 : World} {room : Nat} {l : List Hd} (hF : ∀ k, F1 k → F k ∨ w.heap.size ≤ k) (hc : Chg (fun k => k = b) w w1) (h : LEnd F1 b w1 room l w2) : LEnd F b w room l w2 := by
  obtain ⟨⟨F', h1, h2⟩, h3⟩ := h
  exact ⟨⟨F', h1, fun k hk => (h2 k hk).elim (hF k) fun h => .inr (Nat.le_trans hc.size h)⟩, hc.trans h3 fun k hk => .inl hk⟩
theorem lend_same {F : Foot} {b : Nat} {w w' : World} {room : Nat} {l : List Hd} (h : RCa F b w room l) (hb : Below w.heap.size w w') : LEnd F b w room l w' := ⟨⟨F, h.below hb, fun _ hk => .inl hk⟩, Chg.of_below hb⟩
theorem RCa.find {F : Foot} {b : Nat} {w : World} {room n : Nat} {l : List Hd} (x : Int) (h : RCa F b w room l) (ok : Ok n l) (hn : n ≤ 1000000) : Calls Try.prog 25 #[rq b, .int .i64 x] w fun e w' => e = .returned (.int .i64 (idx x l 0)) ∧ w' = w := by
  obtain ⟨v, z, e, h⟩ := h
  have hl : z.length = l.length := by rw [← e]; simp
  have := rfind_any x w h (by have := ok.len; omega)
  rw [e] at this
  exact this
theorem rfirst_l {F : Foot} {b : Nat} {w : World} {room n : Nat} {l : List Hd} (p : Hd) (u : Value) (h : RCa F b w room l) (ok : Ok n l) (hn : n ≤ 1000000) (hu : SlB (fun k => F k ∧ k ≠ b) w u p.page) :
    Calls Try.prog 29 #[rq b, .agg (hvC (p, u)).toArray] w fun e w' => e = .returned (.tuple #[]) ∧ LEnd F b w room (p :: rsH l p.item) w' := by
  obtain ⟨v, z, e, h⟩ := h
  have hl : z.length = l.length := by rw [← e]; simp
  have hz : z.length ≤ 1000000 := by have := ok.len; omega
  cases hk : lkH l p.item with
  | none =>
    have hm : p.item ∉ items l := fun hm => by rw [← look_isSome, hk] at hm; cases hm
    refine (rfirst_z (p, u) w h hz hu none (by show idx p.item (z.map Prod.fst) 0 = -1; rw [e]; exact idx_none hm)).mono ?_
    rintro ex w' ⟨rfl, hz⟩
    exact ⟨rfl, lend_of hz (by rw [List.map_cons, e, rest_of_not hm])⟩
  | some g =>
    obtain ⟨k, h1, h2, h3, h4⟩ := idx_at ok.nd 0 hk
    refine (rfirst_z (p, u) w h hz hu (some k) ⟨by omega, by show idx p.item (z.map Prod.fst) 0 = (k : Int); rw [e, h2, Nat.zero_add]⟩).mono ?_
    rintro ex w' ⟨rfl, hz⟩
    refine ⟨rfl, lend_of hz ?_⟩
    rw [List.map_cons, List.map_append, List.map_take, List.map_drop, e, h4]
set_option maxRecDepth 100000 in
set_option maxHeartbeats 1000000 in
theorem ris_any (x : Int) (w : World) : Calls Try.prog 32 #[.int .i64 x] w fun e w' => e = .returned (.bool (isI x)) ∧ w' = w := by
  by_cases g1 : x < 0
  · have e1 : isI x = false := by simp [isI]; omega
    rw [e1]; clear e1
    go_enter Try.func32, Try.ntmps32
    go_wp2_with fail
    go_ret
    exact ⟨rfl, rfl⟩
  · by_cases g2 : x < 4096
    · have e1 : isI x = true := by simp [isI]; omega
      rw [e1]; clear e1
      go_enter Try.func32, Try.ntmps32
      go_wp2_with fail
      go_ret
      exact ⟨rfl, rfl⟩
    · have e1 : isI x = false := by simp [isI]; omega
      rw [e1]; clear e1
      go_enter Try.func32, Try.ntmps32
      go_wp2_with fail
      go_ret
      exact ⟨rfl, rfl⟩
/-- Where the last one stands that is not pinned, among the first k. -/
def LastI (l : List Hd) (k : Nat) (lz : Int) : Prop := (unH (l.take k) = [] ∧ lz = -1) ∨ ∃ j, j < k ∧ lz = (j : Int) ∧ (unH (l.take k)).getLast? = l[j]?
theorem lastI_step {l : List Hd} {k : Nat} {lz : Int} (h : LastI l k lz) (hk : k < l.length) : (unH (l.take (k + 1))).length = (unH (l.take k)).length + (if (l[k]).pin then 0 else 1) ∧ LastI l (k + 1) (if (l[k]).pin then lz else (k : Int)) := by
  have e : l.take (k + 1) = l.take k ++ [l[k]] := by rw [List.take_add_one, List.getElem?_eq_getElem hk]; rfl
  unfold LastI
  rw [e, unp_snoc]
  cases hp : (l[k]).pin with
  | true =>
    refine ⟨by simp, ?_⟩
    rcases h with ⟨h1, h2⟩ | ⟨j, h1, h2, h3⟩
    · exact .inl ⟨by simpa using h1, by simpa using h2⟩
    · exact .inr ⟨j, by omega, by simpa using h2, by simpa using h3⟩
  | false =>
    refine ⟨by simp, .inr ⟨k, by omega, by simp, by simp [List.getElem?_eq_getElem hk]⟩⟩
set_option maxRecDepth 100000 in
set_option maxHeartbeats 4000000 in
theorem rfit_any {F : Foot} {b : Nat} {room n : Nat} {l : List Hd} (w : World) (h : RCa F b w room l) (ok : Ok n l) (hn : n ≤ 1000000) (hr : room ≤ 100000) :
    Calls Try.prog 35 #[rq b] w fun e w' => e = .returned (.int .i64 (fit room l).2) ∧ LEnd F b w room (fit room l).1 w' := by
  obtain ⟨v, z, e, h⟩ := h
  have c0 : w.cell? ⟨b, 0, none⟩ = some (.int .i64 (room : Int)) := by rw [h.row.cell]; rfl
  have c1 : w.cell? ⟨b, 1, none⟩ = some v := by rw [h.row.cell]; rfl
  obtain ⟨_, a, cap, rfl, _, _⟩ := id h.sl
  obtain ⟨m, hm⟩ : ∃ m, m = z.length := ⟨_, rfl⟩
  have hml : m = l.length := by rw [hm, ← e]; simp
  have hm2 : m ≤ 1000000 := by have := ok.len; omega
  have hzi : ∀ (i : Nat) (hi : i < z.length) (h2 : i < l.length), (z[i]).1 = l[i] := fun i hi h2 => by subst e; simp
  have hall : fit room l = fit room l := rfl
  rw [← hm] at c1
  have H := Lib.hid h; have HM := Lib.hid hm; have HML := Lib.hid hml; have OK := Lib.hid ok; have ZI := Lib.hid hzi; have E := Lib.hid e
  clear h hm ok hzi e hall hn
  go_enter Try.func35, Try.ntmps35
  go_wp2_with fail
  go_loopw [3, 4, 5] (fun a3 a4 a5 wr => ∃ (k q : Nat) (lz : Int), k ≤ m ∧ a5 = .int .i64 (k : Int) ∧ a3 = .int .i64 (q : Int) ∧ a4 = .int .i64 lz ∧ q = (unH (l.take k)).length ∧ q ≤ k ∧ LastI l k lz ∧ wr = w) (fun _ _ i _ => m - (Go.RowKit.intOf i).toNat)
  case atStart => exact ⟨0, 0, -1, Nat.zero_le _, rfl, rfl, rfl, by simp [unH], Nat.le_refl _, .inl ⟨by simp [unH], rfl⟩, rfl⟩
  case round =>
    obtain ⟨k, q, lz, hk, rfl, rfl, rfl, hq, hqk, hlast, rfl⟩ := hrel
    have HQ := Lib.hid hq; have HLA := Lib.hid hlast
    clear hq hlast
    by_cases hlt : k < m
    · have hat := rows3_at H.out.sl (i := k) (by rw [← HM.out]; exact hlt)
      obtain ⟨bb, oo, rfl, _, _, _, _, _, e1⟩ := hat
      rw [ZI.out k _ (by rw [← HML.out]; exact hlt)] at e1
      have hst := lastI_step HLA.out (by rw [← HML.out]; exact hlt)
      have hlt' : (k : Int) < (m : Int) := by omega
      obtain ⟨y, hy⟩ : ∃ y, y = (l[k]'(by rw [← HML.out]; exact hlt)).pin := ⟨_, rfl⟩
      rw [← hy] at e1 hst
      have ST := Lib.hid hst
      clear hst hy
      cases y with
      | true =>
        go_wp2_with fail
        go_roundw
        case rel => exact ⟨k + 1, q, lz, by omega, by go_num, rfl, rfl, by have := ST.out.1; rw [this, HQ.out]; simp, by omega, by simpa using ST.out.2, by first | trivial | rfl⟩
        case measure => simp [Go.RowKit.intOf]; omega
      | false =>
        go_wp2_with fail
        go_roundw
        case rel => exact ⟨k + 1, q + 1, (k : Int), by omega, by go_num, by go_num, rfl, by have := ST.out.1; rw [this, HQ.out]; simp, by omega, by simpa using ST.out.2, by first | trivial | rfl⟩
        case measure => simp [Go.RowKit.intOf]; omega
    · have hkm : k = m := by omega
      subst hkm
      have htk : l.take k = l := by rw [HML.out]; simp
      have hq2 : q = (unH l).length := by have := HQ.out; rw [htk] at this; exact this
      have hla : LastI l k lz := HLA.out
      unfold LastI at hla
      rw [htk] at hla
      by_cases hfit : q ≤ room
      · have e2 : fit room l = (l, -1) := by unfold fit; rw [if_pos (by omega)]
        have E2 := Lib.hid e2
        have hfit' : (q : Int) ≤ (room : Int) := by omega
        clear htk hq2 hla e2
        go_wp2_with fail
        go_ret
        rw [E2.out]
        exact ⟨rfl, lend_same ⟨_, z, E.out, H.out⟩ (Below.refl _ _)⟩
      · have hgt : ¬ (q : Int) ≤ (room : Int) := by omega
        rcases hla with ⟨h1, _⟩ | ⟨j, hj, rfl, h3⟩
        · rw [h1] at hq2; simp at hq2; omega
        · have hjl : j < l.length := by rw [← HML.out]; exact hj
          have hjz : j < z.length := by rw [← HM.out]; exact hj
          have hlj : l[j]? = some l[j] := List.getElem?_eq_getElem hjl
          rw [hlj] at h3
          have e2 : fit room l = (rsH l (l[j]).item, (l[j]).item) := by unfold fit; rw [if_neg (by omega), h3]
          have e3 := wo_rest OK.out.nd hlj
          obtain ⟨bb, oo, rfl, _, _, _, e1, _, _⟩ := rows3_at H.out.sl (i := j) hjz
          rw [ZI.out j _ hjl] at e1
          obtain ⟨y, hy⟩ : ∃ y, y = (l[j]).item := ⟨_, rfl⟩
          rw [← hy] at e1 e2 e3
          have hwo := rwo_any j wr H.out (by rw [← HM.out]; exact hm2) hjz
          have hsub : ∀ p ∈ z.take j ++ z.drop (j + 1), p ∈ z := fun p hp => (List.mem_append.1 hp).elim List.mem_of_mem_take List.mem_of_mem_drop
          have hmap : (z.take j ++ z.drop (j + 1)).map Prod.fst = rsH l y := by rw [List.map_append, List.map_take, List.map_drop, E.out, e3]
          obtain ⟨z1, hz1⟩ : ∃ z1, z1 = z.take j ++ z.drop (j + 1) := ⟨_, rfl⟩
          rw [← hz1] at hwo hsub hmap
          have E2 := Lib.hid e2; have WO := Lib.hid hwo; have SB := Lib.hid hsub; have MP := Lib.hid hmap
          clear htk hq2 e2 e3 h3 hlj hy hwo hsub hmap hz1
          go_wp2_with (first
            | (go_at_call 37; refine WO.out.mono ?_; rintro e w5 ⟨v5, rfl, hs5, hb5⟩; have S5 := Lib.hid hs5; have B5 := Lib.hid hb5; have V1 : Hid (v5.oneCell' = true) := Lib.hid (by obtain ⟨_, a5, c5, rfl, _⟩ := hs5; rfl); have A5 : Hid (At w5 b (rcC room (.slice (some ⟨bb, oo, none⟩) z.length cap)) 30) := Lib.hid (H.out.row.below hb5 H.out.row.lt); clear hs5 hb5)
            | (refine Mem.wpList_store_one (by rfl) 28 _ _ (by rfl) (by rfl) b 1 v5 (by rfl) (by rfl) V1.out infoHds _ 30 A5.out (by simp [rcC]) ?_; intro w8 ha ho hk; have A8 : Hid (At w8 b (rcC room v5) 30) := Lib.hid (by have := ha; simpa [rcC] using this); have O8 := Lib.hid ho; have K8 := Lib.hid hk; clear ha ho hk)
            | fail)
          go_ret
          rw [E2.out]
          obtain ⟨hr8, hc8⟩ := wo_end H.out SB.out B5.out S5.out A8.out O8.out (K8.out 0 w5 (Below.refl _ _) (Nat.zero_le _))
          exact ⟨rfl, ⟨⟨_, ⟨_, z1, MP.out, hr8⟩, grow_ext⟩, hc8⟩⟩
end Sha
end Go.Proofs.Yteiffdccfmfdbaa
