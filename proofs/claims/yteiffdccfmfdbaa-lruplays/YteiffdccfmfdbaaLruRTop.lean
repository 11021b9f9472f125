/- The document's cache: Drop, Pin, Put. -/
import Derived.Test.YteiffdccfmfdbaaLruRFit
namespace Go.Proofs.Yteiffdccfmfdbaa
namespace Sha
open Go.RowKit Mem Lru
theorem RCa.lt {F : Foot} {b : Nat} {w : World} {room : Nat} {l : List Hd} (h : RCa F b w room l) : (∀ k, F k → k < w.heap.size) ∧ F b := by
  obtain ⟨v, z, e, h⟩ := h
  exact ⟨h.lt, h.bF⟩
/-- New blocks are taken into its own. -/
theorem RCa.grow {F : Foot} {b : Nat} {w w' : World} {room : Nat} {l : List Hd} (h : RCa F b w room l) (hb : Below w.heap.size w w') : RCa (Mem.grow F w w') b w' room l := by
  obtain ⟨v, z, e, h⟩ := h
  have h' := h.below hb
  exact ⟨v, z, e, ⟨h'.row, h'.sl.mono fun k hk hlt => ⟨⟨.inl hk.1, hlt⟩, hk.2⟩, fun p hp => (h'.pages p hp).mono fun k hk hlt => ⟨⟨.inl hk.1, hlt⟩, hk.2⟩, ⟨.inl h'.bF, h'.row.lt⟩, grow_lt⟩⟩
theorem own_grow {F : Foot} {b : Nat} {w w' : World} {u : Value} {p : List (BitVec 8)} (h : OwnB w' w.heap.size u p) (hb : b < w.heap.size) : SlB (fun k => Mem.grow F w w' k ∧ k ≠ b) w' u p :=
  (OwnB.slB h).mono fun k hk hlt => ⟨⟨.inr hk, hlt⟩, by omega⟩
set_option maxRecDepth 100000 in
set_option maxHeartbeats 400000 in
theorem rdrop_any {F : Foot} {b : Nat} {room n : Nat} {l : List Hd} (x : Int) (w : World) (h : RCa F b w room l) (ok : Ok n l) (hn : n ≤ 1000000) :
    Calls Try.prog 18 #[rq b, .int .i64 x] w fun e w' => e = .returned (.bool (drpH l x).2) ∧ LEnd F b w room (drpH l x).1 w' := by
  have hf := RCa.find x h ok hn
  cases hk : lkH l x with
  | none =>
    have hm : x ∉ items l := fun hm => by rw [← look_isSome, hk] at hm; cases hm
    rw [idx_none hm] at hf
    have e1 : drpH l x = (l, false) := by unfold drpH; rw [hk, rest_of_not hm]; rfl
    rw [e1]
    have H := Lib.hid h; have HF := Lib.hid hf
    clear h hf hm e1 hk ok hn
    go_enter Try.func18, Try.ntmps18
    go_wp2_with (go_at_call 25; refine HF.out.mono ?_; rintro e w2 ⟨rfl, rfl⟩)
    go_ret
    exact ⟨rfl, lend_same H.out (Below.refl _ _)⟩
  | some g =>
    obtain ⟨k, h1, h2, h3, h4⟩ := idx_at ok.nd 0 hk
    rw [h2, Nat.zero_add] at hf
    have e1 : drpH l x = (rsH l x, true) := by unfold drpH; rw [hk]; rfl
    rw [e1]
    obtain ⟨v, z, e, h⟩ := h
    have hl : z.length = l.length := by rw [← e]; simp
    have hwo := rwo_any k w h (by have := ok.len; omega) (by omega)
    have hsub : ∀ p ∈ z.take k ++ z.drop (k + 1), p ∈ z := fun p hp => (List.mem_append.1 hp).elim List.mem_of_mem_take List.mem_of_mem_drop
    have hmap : (z.take k ++ z.drop (k + 1)).map Prod.fst = rsH l x := by rw [List.map_append, List.map_take, List.map_drop, e, h4]
    obtain ⟨z1, hz1⟩ : ∃ z1, z1 = z.take k ++ z.drop (k + 1) := ⟨_, rfl⟩
    rw [← hz1] at hwo hsub hmap
    have hkk : ¬ (k : Int) < 0 := by omega
    have H := Lib.hid h; have HF := Lib.hid hf; have WO := Lib.hid hwo; have SB := Lib.hid hsub; have MP := Lib.hid hmap
    clear h hf hwo hsub hmap hz1 h1 h2 h3 h4 e1 hk ok hn hl e
    go_enter Try.func18, Try.ntmps18
    go_wp2_with (first
      | (go_at_call 25; refine HF.out.mono ?_; rintro e w2 ⟨rfl, hw2⟩; have hw3 := hw2.symm; clear hw2; subst hw3)
      | (go_at_call 37; refine WO.out.mono ?_; rintro e w5 ⟨v5, rfl, hs5, hb5⟩; have S5 := Lib.hid hs5; have B5 := Lib.hid hb5; have V1 : Hid (v5.oneCell' = true) := Lib.hid (by obtain ⟨_, a5, c5, rfl, _⟩ := hs5; rfl); have A5 : Hid (At w5 b (rcC room v) 30) := Lib.hid (H.out.row.below hb5 H.out.row.lt); clear hs5 hb5)
      | (refine Mem.wpList_store_one (by rfl) 28 _ _ (by rfl) (by rfl) b 1 v5 (by rfl) (by rfl) V1.out infoHds _ 30 A5.out (by simp [rcC]) ?_; intro w8 ha ho hk; have A8 : Hid (At w8 b (rcC room v5) 30) := Lib.hid (by have := ha; simpa [rcC] using this); have O8 := Lib.hid ho; have K8 := Lib.hid hk; clear ha ho hk)
      | fail)
    go_ret
    obtain ⟨hr8, hc8⟩ := wo_end H.out SB.out B5.out S5.out A8.out O8.out (K8.out 0 w5 (Below.refl _ _) (Nat.zero_le _))
    exact ⟨rfl, ⟨⟨_, ⟨_, z1, MP.out, hr8⟩, grow_ext⟩, hc8⟩⟩
set_option maxRecDepth 100000 in
set_option maxHeartbeats 400000 in
theorem rpin_any {F : Foot} {b : Nat} {room n : Nat} {l : List Hd} (x : Int) (p : List (BitVec 8)) (vp : Value) (w : World) (h : RCa F b w room l) (ok : Ok n l) (hn : n ≤ 1000000) (hp : Sl w vp p) (hpl : p.length ≤ 1000000) :
    Calls Try.prog 14 #[rq b, .int .i64 x, vp] w fun e w' => e = .returned (.int .i64 (pinH l x p).2) ∧ LEnd F b w room (pinH l x p).1 w' := by
  have hi := ris_any x w
  cases hx : isI x with
  | false =>
    rw [hx] at hi
    have e1 : pinH l x p = (l, 1) := by unfold pinH; rw [hx]; rfl
    rw [e1]
    have H := Lib.hid h; have HI := Lib.hid hi
    clear h hi e1 hx ok hn hp hpl
    go_enter Try.func14, Try.ntmps14
    go_wp2_with (go_at_call 32; refine HI.out.mono ?_; rintro e w2 ⟨rfl, rfl⟩)
    go_ret
    exact ⟨rfl, lend_same H.out (Below.refl _ _)⟩
  | true =>
    rw [hx] at hi
    have e1 : pinH l x p = (⟨x, p, true⟩ :: rsH l x, 0) := by unfold pinH; rw [hx]; rfl
    rw [e1]
    obtain ⟨a, cap, rfl⟩ : ∃ a cap, vp = .slice a p.length cap := by obtain ⟨a, c, e, _⟩ := hp; exact ⟨a, c, e⟩
    obtain ⟨m, hm⟩ : ∃ m, m = p.length := ⟨_, rfl⟩
    rw [← hm] at hp ⊢
    have H := Lib.hid h; have HI := Lib.hid hi; have OK := Lib.hid ok; have HN := Lib.hid hn; have HP := Lib.hid hp; have PL := Lib.hid hpl
    clear h hi e1 hx ok hn hp hpl hm
    go_enter Try.func14, Try.ntmps14
    go_wp2_with (first
      | (go_at_call 32; refine HI.out.mono ?_; rintro e w2 ⟨rfl, hw2⟩; have hw3 := hw2.symm; clear hw2; subst hw3)
      | (at_builtin; refine wpList_append_bytes (by rfl) _ _ (by rfl) w.heap.size (.slice none 0 0) (.slice a m cap) [] p (by rfl) (OwnB.nil _ _) (by rfl) HP.out (by have := PL.out; simp; omega) (Nat.le_refl _) ?_; intro v5 w5 ho5 _ hb5; rw [List.nil_append] at ho5; obtain ⟨a5, c5, rfl⟩ := rows_hd ho5; have O5 := Lib.hid ho5; have B5 := Lib.hid hb5; clear ho5 hb5)
      | (go_at_call 29; refine (rfirst_l ⟨x, p, true⟩ (.slice a5 p.length c5) (RCa.grow H.out B5.out) OK.out HN.out (own_grow O5.out (H.out.lt.1 _ H.out.lt.2))).mono ?_; rintro e w6 ⟨rfl, hr⟩; have HR := Lib.hid (LEnd.trans grow_ext (Chg.of_below B5.out) hr); clear hr)
      | fail)
    go_ret
    exact ⟨rfl, HR.out⟩
set_option maxRecDepth 100000 in
set_option maxHeartbeats 400000 in
theorem rput_any {F : Foot} {b : Nat} {room n : Nat} {l : List Hd} (x : Int) (p : List (BitVec 8)) (vp : Value) (w : World) (h : RCa F b w room l) (ok : Ok n l) (hn : n ≤ 100000) (hr : room ≤ 100000) (hp : Sl w vp p) (hpl : p.length ≤ 1000000) :
    Calls Try.prog 20 #[rq b, .int .i64 x, vp] w fun e w' => e = .returned (.tuple #[.int .i64 (putH room l x p).2.1, .int .i64 (putH room l x p).2.2]) ∧ LEnd F b w room (putH room l x p).1 w' := by
  have hi := ris_any x w
  cases hx : isI x with
  | false =>
    rw [hx] at hi
    have e1 : putH room l x p = (l, -1, 1) := by unfold putH; rw [hx]; rfl
    rw [e1]
    have H := Lib.hid h; have HI := Lib.hid hi
    clear h hi e1 hx ok hn hp hpl
    go_enter Try.func20, Try.ntmps20
    go_wp2_with (go_at_call 32; refine HI.out.mono ?_; rintro e w2 ⟨rfl, rfl⟩)
    go_ret2
    exact ⟨rfl, lend_same H.out (Below.refl _ _)⟩
  | true =>
    rw [hx] at hi
    have e1 : putH room l x p = ((fit room (⟨x, p, pinOf l x⟩ :: rsH l x)).1, (fit room (⟨x, p, pinOf l x⟩ :: rsH l x)).2, 0) := by unfold putH; rw [hx]; rfl
    rw [e1]
    have hok := ok_cons ok (isI_iff.1 hx) hpl (pinOf l x)
    have hf := RCa.find x h ok (by omega)
    obtain ⟨a, cap, rfl⟩ : ∃ a cap, vp = .slice a p.length cap := by obtain ⟨a, c, e, _⟩ := hp; exact ⟨a, c, e⟩
    obtain ⟨m, hm⟩ : ∃ m, m = p.length := ⟨_, rfl⟩
    rw [← hm] at hp ⊢
    cases hk : lkH l x with
    | none =>
      have hmm : x ∉ items l := fun hm => by rw [← look_isSome, hk] at hm; cases hm
      rw [idx_none hmm] at hf
      have hq : pinOf l x = false := by unfold pinOf; rw [hk]
      rw [hq] at hok ⊢
      have H := Lib.hid h; have HI := Lib.hid hi; have OK := Lib.hid ok; have HN := Lib.hid hn; have HP := Lib.hid hp; have PL := Lib.hid hpl; have HF := Lib.hid hf; have OK2 := Lib.hid hok; have RR := Lib.hid hr
      clear h hi e1 hx ok hn hp hpl hm hf hok hk hmm hq hr
      go_enter Try.func20, Try.ntmps20
      go_wp2_with (first
        | (go_at_call 32; refine HI.out.mono ?_; rintro e w2 ⟨rfl, hw2⟩; have hw3 := hw2.symm; clear hw2; subst hw3)
        | (go_at_call 25; refine HF.out.mono ?_; rintro e w2 ⟨rfl, hw2⟩; have hw3 := hw2.symm; clear hw2; subst hw3)
        | (at_builtin; refine wpList_append_bytes (by rfl) _ _ (by rfl) w.heap.size (.slice none 0 0) (.slice a m cap) [] p (by rfl) (OwnB.nil _ _) (by rfl) HP.out (by have := PL.out; simp; omega) (Nat.le_refl _) ?_; intro v5 w5 ho5 _ hb5; rw [List.nil_append] at ho5; obtain ⟨a5, c5, rfl⟩ := rows_hd ho5; have O5 := Lib.hid ho5; have B5 := Lib.hid hb5; clear ho5 hb5)
        | (go_at_call 29; refine (rfirst_l ⟨x, p, false⟩ (.slice a5 p.length c5) (RCa.grow H.out B5.out) OK.out (by have := HN.out; omega) (own_grow O5.out (H.out.lt.1 _ H.out.lt.2))).mono ?_; rintro e w6 ⟨rfl, hr⟩; have HR := Lib.hid (LEnd.trans grow_ext (Chg.of_below B5.out) hr); clear hr)
        | fail)
      obtain ⟨⟨F1, h1, hF1⟩, hc1⟩ := HR.out
      have hq := rfit_any _ h1 OK2.out (by have := HN.out; omega) RR.out
      have HQ := Lib.hid hq; have HF1 := Lib.hid hF1; have HC1 := Lib.hid hc1
      clear hq hF1 hc1 h1 HR
      refine HQ.out.mono ?_
      rintro e w7 ⟨rfl, hr⟩
      have HR := Lib.hid (LEnd.trans HF1.out HC1.out hr)
      clear hr
      go_wp2_with fail
      go_ret2
      exact ⟨rfl, HR.out⟩
    | some g =>
      obtain ⟨k, h1, h2, h3, h4⟩ := idx_at ok.nd 0 hk
      rw [h2, Nat.zero_add] at hf
      have hq : pinOf l x = g.pin := by unfold pinOf; rw [hk]
      rw [hq] at hok ⊢
      obtain ⟨q, hqq⟩ : ∃ q, q = g.pin := ⟨_, rfl⟩
      rw [← hqq] at hok ⊢
      have hkk : (0 : Int) ≤ (k : Int) := by omega
      have hcells : ∀ w', Below w.heap.size w w' → ∃ a1 n1 k1 bb oo, w'.cell? ⟨b, 1, none⟩ = some (.slice (some ⟨bb, oo, none⟩) n1 k1) ∧ k < n1 ∧ w'.cell? ⟨bb, oo + k * 3 + 2, none⟩ = some (.bool q) ∧ a1 = some bb := fun w' hb => by
        obtain ⟨v, z, e, hv⟩ := h
        have hz : k < z.length := by have : z.length = l.length := by rw [← e]; simp
                                     omega
        obtain ⟨_, a2, c2, rfl, _, _⟩ := id hv.sl
        have hv' := hv.below hb
        obtain ⟨bb, oo, rfl, _, _, _, _, _, e3⟩ := rows3_at hv'.sl (i := k) hz
        have e4 : (z[k]'hz).1 = g := by rw [← h3]; subst e; simp [List.getD_eq_getElem?_getD, hz]
        rw [e4, ← hqq] at e3
        exact ⟨some bb, z.length, c2, bb, oo, by rw [hv'.row.cell]; rfl, hz, e3, rfl⟩
      have H := Lib.hid h; have HI := Lib.hid hi; have OK := Lib.hid ok; have HN := Lib.hid hn; have HP := Lib.hid hp; have PL := Lib.hid hpl; have HF := Lib.hid hf; have OK2 := Lib.hid hok; have RR := Lib.hid hr; have CC := Lib.hid hcells
      clear h hi e1 hx ok hn hp hpl hm hf hok hk hq hr h1 h2 h3 h4 hqq hcells
      go_enter Try.func20, Try.ntmps20
      go_wp2_with (first
        | (go_at_call 32; refine HI.out.mono ?_; rintro e w2 ⟨rfl, hw2⟩; have hw3 := hw2.symm; clear hw2; subst hw3)
        | (go_at_call 25; refine HF.out.mono ?_; rintro e w2 ⟨rfl, hw2⟩; have hw3 := hw2.symm; clear hw2; subst hw3)
        | (at_builtin; refine wpList_append_bytes (by rfl) _ _ (by rfl) w.heap.size (.slice none 0 0) (.slice a m cap) [] p (by rfl) (OwnB.nil _ _) (by rfl) HP.out (by have := PL.out; simp; omega) (Nat.le_refl _) ?_; intro v5 w5 ho5 _ hb5; rw [List.nil_append] at ho5; obtain ⟨a5, c5, rfl⟩ := rows_hd ho5; obtain ⟨_, n1, k1, bb, oo, d1, dk, d2, _⟩ := CC.out w5 hb5; have dk' : (k : Int) < (n1 : Int) := (by omega); have O5 := Lib.hid ho5; have B5 := Lib.hid hb5; clear ho5 hb5)
        | (go_at_call 29; refine (rfirst_l ⟨x, p, q⟩ (.slice a5 p.length c5) (RCa.grow H.out B5.out) OK.out (by have := HN.out; omega) (own_grow O5.out (H.out.lt.1 _ H.out.lt.2))).mono ?_; rintro e w6 ⟨rfl, hr⟩; have HR := Lib.hid (LEnd.trans grow_ext (Chg.of_below B5.out) hr); clear hr d1 d2)
        | fail)
      obtain ⟨⟨F1, h1, hF1⟩, hc1⟩ := HR.out
      have hq := rfit_any _ h1 OK2.out (by have := HN.out; omega) RR.out
      have HQ := Lib.hid hq; have HF1 := Lib.hid hF1; have HC1 := Lib.hid hc1
      clear hq hF1 hc1 h1 HR
      refine HQ.out.mono ?_
      rintro e w7 ⟨rfl, hr⟩
      have HR := Lib.hid (LEnd.trans HF1.out HC1.out hr)
      clear hr
      go_wp2_with fail
      go_ret2
      exact ⟨rfl, HR.out⟩
end Sha
end Go.Proofs.Yteiffdccfmfdbaa
