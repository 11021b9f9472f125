/- The document's cache: Get, Unpin. -/
import Derived.Test.YteiffdccfmfdbaaLruRTop
namespace Go.Proofs.Yteiffdccfmfdbaa
namespace Sha
open Go.RowKit Mem Lru
def hvA (p : Hv) : Array Value := (hvC p).toArray
theorem hvA_one (h : Hd) (a : Option Addr) (n c : Nat) : (hvA (h, .slice a n c)).all (·.oneCell') = true := by simp [hvA, hvC, Value.oneCell']
/-- What stands at an item's place. -/
structure AtH (F : Foot) (b : Nat) (l : List Hd) (g : Hd) (k n1 k1 bb oo : Nat) (a : Option Addr) (m c : Nat) (w : World) : Prop where
  c1 : w.cell? ⟨b, 1, none⟩ = some (.slice (some ⟨bb, oo, none⟩) n1 k1)
  lt : k < n1
  rg : w.rangeAt bb (oo + k * 3) (hvA (g, .slice a m c)).toList
  pg : SlB (fun k => F k ∧ k ≠ b) w (.slice a m c) g.page
theorem RCa.at {F : Foot} {b : Nat} {w : World} {room : Nat} {l : List Hd} {g : Hd} {k : Nat} (h : RCa F b w room l) (hk : k < l.length) (hg : l.getD k default = g) : ∃ n1 k1 bb oo a m c, AtH F b l g k n1 k1 bb oo a m c w := by
  obtain ⟨v, z, e, hv⟩ := h
  have hz : k < z.length := by
    have : z.length = l.length := by rw [← e]; simp
    omega
  obtain ⟨_, a2, c2, rfl, _, _⟩ := id hv.sl
  obtain ⟨bb, oo, rfl, _, _, _, e1, e2, e3⟩ := rows3_at hv.sl (i := k) hz
  have e4 : (z[k]'hz).1 = g := by rw [← hg]; subst e; simp [List.getD_eq_getElem?_getD, hz]
  have hp := hv.pages _ (List.getElem_mem hz)
  obtain ⟨_, a, c, ev, _⟩ := id hp
  rw [e4] at e1 e3 hp ev
  rw [ev] at e2 hp
  refine ⟨z.length, c2, bb, oo, a, g.page.length, c, by rw [hv.row.cell]; rfl, hz, fun j u hu => ?_, hp⟩
  match j with
  | 0 => have : u = .int .i64 g.item := by simpa [hvA, hvC] using hu.symm
         rw [this]; exact e1
  | 1 => have : u = .slice a g.page.length c := by simpa [hvA, hvC] using hu.symm
         rw [this]; exact e2
  | 2 => have : u = .bool g.pin := by simpa [hvA, hvC] using hu.symm
         rw [this]; exact e3
  | j + 3 => simp [hvA, hvC] at hu
def GotR (o : Option (List (BitVec 8))) (e : Ending) (w' : World) : Prop := ∃ v, e = .returned (.tuple #[v, .bool o.isSome]) ∧ Sl w' v (o.getD [])
theorem sl_nil0 (w : World) : Sl w (.slice none 0 0) [] := ⟨none, 0, rfl, Nat.le_refl _, fun h => absurd rfl h⟩
set_option maxRecDepth 100000 in
set_option maxHeartbeats 1000000 in
theorem rget_any {F : Foot} {b : Nat} {room n : Nat} {l : List Hd} (x : Int) (w : World) (h : RCa F b w room l) (ok : Ok n l) (hn : n ≤ 1000000) :
    Calls Try.prog 11 #[rq b, .int .i64 x] w fun e w' => GotR (getH l x).2 e w' ∧ LEnd F b w room (getH l x).1 w' := by
  have hf := RCa.find x h ok hn
  cases hk : lkH l x with
  | none =>
    have hm : x ∉ items l := fun hm => by rw [← look_isSome, hk] at hm; cases hm
    rw [idx_none hm] at hf
    have e1 : getH l x = (l, none) := by unfold getH; rw [hk]
    rw [e1]
    have H := Lib.hid h; have HF := Lib.hid hf
    clear h hf hm e1 hk ok hn
    go_enter Try.func11, Try.ntmps11
    go_wp2_with (go_at_call 25; refine HF.out.mono ?_; rintro e w2 ⟨rfl, rfl⟩)
    go_ret2
    exact ⟨⟨_, rfl, sl_nil0 _⟩, lend_same H.out (Below.refl _ _)⟩
  | some g =>
    obtain ⟨k, h1, h2, h3, h4⟩ := idx_at ok.nd 0 hk
    rw [h2, Nat.zero_add] at hf
    have e1 : getH l x = (g :: rsH l x, some g.page) := by unfold getH; rw [hk]
    rw [e1]
    have hx : g.item = x := (look_some hk).2
    obtain ⟨n1, k1, bb, oo, a, m, c, hat⟩ := RCa.at h h1 h3
    have c1 := hat.c1
    have hkk : ¬ (k : Int) < 0 := by omega
    have hlt : k < n1 := hat.lt
    have hlt' : (k : Int) < (n1 : Int) := by omega
    have hb4 : Below w.heap.size w (w.alloc (.cells (hvA (g, .slice a m c)) 52)) := (Below.refl _ _).alloc (Nat.le_refl _) _
    have hnew := at_new w (hvA (g, .slice a m c)) 52
    have hbl := h.lt.1 _ h.lt.2
    have hfi := rfirst_l g (.slice a m c) (h.below hb4) ok hn (hat.pg.keep hb4.size fun k hk hlt => hb4.block k hlt)
    rw [hx] at hfi
    have hone := hvA_one g a m c
    have hsz : (hvA (g, .slice a m c)).size = 3 := by simp [hvA, hvC]
    have hc1 : (hvA (g, .slice a m c))[1]? = some (.slice a m c) := by simp [hvA, hvC]
    obtain ⟨M, hM⟩ : ∃ M, M = hvA (g, .slice a m c) := ⟨_, rfl⟩
    have hrg := hat.rg
    rw [← hM] at hb4 hnew hone hsz hc1 hrg
    have hfi : Calls Try.prog 29 #[rq b, .agg M] (w.alloc (.cells M 52)) fun e w' => e = .returned (.tuple #[]) ∧ LEnd F b (w.alloc (.cells M 52)) room (g :: rsH l x) w' := by rw [hM]; exact hfi
    have H := Lib.hid h; have HF := Lib.hid hf; have RG := Lib.hid hrg; have B4 := Lib.hid hb4; have NW := Lib.hid hnew; have FI := Lib.hid hfi; have ONE := Lib.hid hone; have SZ := Lib.hid hsz; have C1 := Lib.hid hc1; have PG := Lib.hid hat.pg; have BL := Lib.hid hbl
    clear h hf hrg hb4 hnew hfi hone hsz hc1 hat hbl hM e1 hk ok hn hx h1 h2 h3 h4
    go_enter Try.func11, Try.ntmps11
    go_wp2_with (first
      | (go_at_call 25; refine HF.out.mono ?_; rintro e w2 ⟨rfl, hw2⟩; have hw3 := hw2.symm; clear hw2; subst hw3)
      | (refine wpList_load_mid (by rfl) 52 _ (by rfl) bb (oo + k * 3) (by rfl) M.toList _ RG.out Try.underlying52 (by rfl) (by rw [infoHd, Array.length_toList, SZ.out]) ?_; rw [Array.toArray_toList])
      | (refine wpList_store_new (by rfl) 52 _ _ (by rfl) (by rfl) M _ 52 (by rfl) (by rfl) (by rw [infoHd, SZ.out]) (by rw [SZ.out]; rfl) ONE.out ?_; clear c1)
      | (refine wpList_load_all (by rfl) 52 _ (by rfl) w.heap.size (by rfl) _ Try.underlying52 (by rfl) M 52 NW.out (by rw [infoHd, SZ.out]) ?_)
      | (go_at_call 29; refine FI.out.mono ?_; rintro e w6 ⟨rfl, hr⟩; have d1 : w6.cell? ⟨w.heap.size, 1, none⟩ = some (.slice a m c) := (by have hq := NW.out.chg hr.2 (by show ¬ w.heap.size = b; have := BL.out; omega); rw [hq.cell]; exact C1.out); have HR := Lib.hid (LEnd.trans (F := F) (F1 := F) (fun k hk => .inl hk) (Chg.of_below B4.out) hr); clear hr)
      | fail)
    go_ret2
    refine ⟨⟨_, rfl, (PG.out.keep HR.out.2.size fun k hk hlt => HR.out.2.block k hlt hk.2).sl⟩, HR.out⟩
end Sha
end Go.Proofs.Yteiffdccfmfdbaa
