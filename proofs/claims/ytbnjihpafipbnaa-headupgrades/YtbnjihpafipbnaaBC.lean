/- A wrapped key as cells. Heads: mathematics, and as cells. Wrapped keys as values: zero, compared. Heads as values: zero, built, compared; their strings. Heads made byte by byte: mathematics. What takeShared tells; mathematics. Heads: May and Sum, the document's and the program's. Heads: made newer, and from one side to the other. Heads: from one side to the other. -/
import Derived.Test.YtbnjihpafipbnaaBA
import Derived.Test.YtbnjihpafipbnaaBB
import Derived.Laws.BytesArg
import Derived.Lib.ConvBytes
import Derived.Deep.Cut
namespace Go.Proofs.Ytbnjihpafipbnaa
namespace Sha
open Go.RowKit Mem
theorem sl_hdw {w : World} {v : Value} {l : List (BitVec 8)} (h : Sl w v l) : ∃ a c, v = .slice a l.length c := let ⟨a, c, e, _⟩ := h; ⟨a, c, e⟩
def z32 : List (BitVec 8) := List.replicate 32 0
def z16 : List (BitVec 8) := List.replicate 16 0
/-- A wrapped key, its arrays as lists. -/
structure WrV where
  salt : List (BitVec 8)
  r : Int
  key : List (BitVec 8)
  ck : List (BitVec 8)
structure WrV.Wf (v : WrV) : Prop where
  salt : v.salt.length = 16
  r0 : -9223372036854775808 ≤ v.r
  r1 : v.r ≤ 9223372036854775807
  key : v.key.length = 32
  ck : v.ck.length = 32
def zwr : WrV := ⟨z16, 0, z32, z32⟩
theorem zwr_wf : zwr.Wf := ⟨rfl, by decide, by decide, rfl, rfl⟩
def wrL (v : WrV) : List Value := u8s v.salt ++ ([.int .i64 v.r] ++ (u8s v.key ++ u8s v.ck))
def wrC (v : WrV) : Array Value := (wrL v).toArray
theorem wrL_length {v : WrV} (h : v.Wf) : (wrL v).length = 81 := by simp [wrL, u8s_length, h.salt, h.key, h.ck]
theorem wrC_size {v : WrV} (h : v.Wf) : (wrC v).size = 81 := by simp [wrC, wrL_length h]
theorem wrC_one (v : WrV) : (wrC v).all (·.oneCell') = true := by
  rw [Array.all_eq_true]
  intro i hi
  have hm : (wrC v)[i] ∈ wrL v := by
    have h : (wrC v)[i] ∈ wrC v := Array.getElem_mem hi
    exact Array.mem_toList_iff.2 h
  generalize (wrC v)[i] = u at hm
  simp only [wrL, List.mem_append, List.mem_cons, List.not_mem_nil, or_false] at hm
  rcases hm with hm | rfl | hm | hm
  all_goals first | rfl | exact u8s_cells _ _ hm
theorem wr_salt {v : WrV} (h : v.Wf) : (wrC v).extract 0 (0 + 16) = (u8s v.salt).toArray := by
  apply Array.ext'
  have e := u8s_length v.salt
  rw [h.salt] at e
  simp only [wrC, wrL, Array.toList_extract, List.extract_eq_take_drop]
  rw [List.drop_zero, List.take_append_of_le_length (by omega), List.take_of_length_le (by omega)]
theorem wr_r {v : WrV} (h : v.Wf) : (wrC v)[16]? = some (.int .i64 v.r) := by
  simp only [wrC, wrL, List.getElem?_toArray]
  rw [List.getElem?_append_right (by rw [u8s_length, h.salt]; exact Nat.le_refl _), u8s_length, h.salt]; rfl
theorem wr_drop17 {v : WrV} (h : v.Wf) : (wrL v).drop 17 = u8s v.key ++ u8s v.ck := by
  have e := u8s_length v.salt
  rw [h.salt] at e
  show (u8s v.salt ++ (([.int .i64 v.r] : List Value) ++ (u8s v.key ++ u8s v.ck))).drop 17 = _
  rw [show (17 : Nat) = (u8s v.salt).length + 1 by omega, List.drop_append, List.drop_eq_nil_of_le (by omega), show (u8s v.salt).length + 1 - (u8s v.salt).length = 1 by omega]; rfl
theorem wr_key {v : WrV} (h : v.Wf) : (wrC v).extract 17 (17 + 32) = (u8s v.key).toArray := by
  apply Array.ext'
  have e := u8s_length v.key
  rw [h.key] at e
  simp only [wrC, Array.toList_extract, List.extract_eq_take_drop]
  rw [wr_drop17 h, List.take_append_of_le_length (by omega), List.take_of_length_le (by omega)]
theorem wr_drop49 {v : WrV} (h : v.Wf) : (wrL v).drop 49 = u8s v.ck := by
  have e := u8s_length v.key
  rw [h.key] at e
  rw [show (49 : Nat) = 17 + 32 by rfl, ← List.drop_drop, wr_drop17 h, show (32 : Nat) = (u8s v.key).length by omega, List.drop_left]
theorem wr_ck {v : WrV} (h : v.Wf) : (wrC v).extract 49 (49 + 32) = (u8s v.ck).toArray := by
  apply Array.ext'
  have e := u8s_length v.ck
  rw [h.ck] at e
  simp only [wrC, Array.toList_extract, List.extract_eq_take_drop]
  rw [wr_drop49 h, List.take_of_length_le (by omega)]
theorem wr_setck {v : WrV} (h : v.Wf) (c : List (BitVec 8)) (hc : c.length = 32) : Mem.splice (wrC v) 49 (u8s c).toArray.toList = wrC { v with ck := c } := by
  have e1 := u8s_length v.salt
  have e2 := u8s_length v.key
  have e3 := u8s_length c
  have e4 := wrL_length h
  rw [h.salt] at e1
  rw [h.key] at e2
  rw [hc] at e3
  unfold Mem.splice
  simp only [wrC]
  congr 1
  rw [List.drop_eq_nil_of_le (by rw [e3, e4]; decide), List.append_nil]
  have e5 : (wrL v).take 49 = u8s v.salt ++ (([.int .i64 v.r] : List Value) ++ u8s v.key) := by
    have e6 : wrL v = (u8s v.salt ++ (([.int .i64 v.r] : List Value) ++ u8s v.key)) ++ u8s v.ck := by simp [wrL]
    rw [e6, List.take_append_of_le_length (by simp [e1, e2]), List.take_of_length_le (by simp [e1, e2])]
  rw [e5]
  simp [wrL]
theorem wr_eq {a b : WrV} (h1 : a.salt = b.salt) (h2 : a.r = b.r) (h3 : a.key = b.key) (h4 : a.ck = b.ck) : a = b := by
  obtain ⟨_, _, _, _⟩ := a
  obtain ⟨_, _, _, _⟩ := b
  simp only at h1 h2 h3 h4
  rw [h1, h2, h3, h4]
def sameWr (a b : WrV) : Bool := (a.salt == b.salt) && ((a.r == b.r) && ((a.key == b.key) && (a.ck == b.ck)))
theorem sameWr_iff (a b : WrV) : sameWr a b = true ↔ a = b := by
  simp only [sameWr, Bool.and_eq_true, beq_iff_eq]
  exact ⟨fun ⟨h1, h2, h3, h4⟩ => wr_eq h1 h2 h3 h4, fun h => by subst h; exact ⟨rfl, rfl, rfl, rfl⟩⟩
theorem sameWr_self (a : WrV) : sameWr a a = true := (sameWr_iff a a).2 rfl
/-- Whether rounds are none. -/
def rBad (r : Int) : Bool := decide (r < 1 ∨ 100 < r)
theorem rBad_iff (r : Int) : rBad r = true ↔ (r < 1 ∨ 100 < r) := by simp [rBad]
theorem wr_mk (s : List (BitVec 8)) (r : Int) (k c : List (BitVec 8)) (hs : s.length = 16) (hk : k.length = 32) (hc : c.length = 32) (h0 : -9223372036854775808 ≤ r) (h1 : r ≤ 9223372036854775807) : WrV.Wf ⟨s, r, k, c⟩ := ⟨hs, h0, h1, hk, hc⟩
end Sha
end Go.Proofs.Ytbnjihpafipbnaa
namespace Go.Proofs.Ytbnjihpafipbnaa
namespace Sha
open Go.RowKit Mem
/-- A head. -/
structure HdV where
  ver : Int
  pages : Int
  wr : WrV
  lab : List (BitVec 8)
structure HdV.Wf (h : HdV) : Prop where
  v0 : -9223372036854775808 ≤ h.ver
  v1 : h.ver ≤ 9223372036854775807
  p0 : -9223372036854775808 ≤ h.pages
  p1 : h.pages ≤ 9223372036854775807
  wr : h.wr.Wf
  lab : h.lab.length ≤ 9223372036854775807
def zhd : HdV := ⟨0, 0, zwr, []⟩
theorem zhd_wf : zhd.Wf := ⟨by decide, by decide, by decide, by decide, zwr_wf, by decide⟩
def hdL (h : HdV) : List Value := [.int .i64 h.ver, .int .i64 h.pages] ++ (wrL h.wr ++ [.string (strOfNums (i8s h.lab))])
def hdC (h : HdV) : Array Value := (hdL h).toArray
theorem hdL_length {h : HdV} (w : h.Wf) : (hdL h).length = 84 := by simp [hdL, wrL_length w.wr]
theorem hdC_size {h : HdV} (w : h.Wf) : (hdC h).size = 84 := by simp [hdC, hdL_length w]
theorem hdC_one (h : HdV) : (hdC h).all (·.oneCell') = true := by
  have hw : (wrL h.wr).all (·.oneCell') = true := by have e := wrC_one h.wr; unfold wrC at e; simpa using e
  unfold hdC hdL
  rw [List.all_toArray]
  simp only [List.all_append, hw]
  rfl
theorem hd_ver (h : HdV) : (hdC h)[0]? = some (.int .i64 h.ver) := rfl
theorem hd_pages (h : HdV) : (hdC h)[1]? = some (.int .i64 h.pages) := rfl
theorem hd_lab {h : HdV} (w : h.Wf) : (hdC h)[83]? = some (.string (strOfNums (i8s h.lab))) := by
  have e := wrL_length w.wr
  simp only [hdC, hdL, List.getElem?_toArray]
  rw [List.getElem?_append_right (by simp), List.getElem?_append_right (by rw [e]; simp), e]; rfl
theorem hd_drop2 (h : HdV) : (hdL h).drop 2 = wrL h.wr ++ [.string (strOfNums (i8s h.lab))] := rfl
theorem hd_wr {h : HdV} (w : h.Wf) : (hdC h).extract 2 (2 + 81) = wrC h.wr := by
  apply Array.ext'
  have e := wrL_length w.wr
  simp only [hdC, wrC, Array.toList_extract, List.extract_eq_take_drop]
  rw [hd_drop2, List.take_append_of_le_length (by omega), List.take_of_length_le (by omega)]
theorem hd_in {h : HdV} (w : h.Wf) (i : Nat) (hi : i < 81) : (hdC h)[2 + i]? = (wrC h.wr)[i]? := by
  have e := wrL_length w.wr
  simp only [hdC, hdL, wrC, List.getElem?_toArray]
  rw [List.getElem?_append_right (by simp), List.getElem?_append_left (by rw [e]; simp; omega)]
  simp
theorem hd_r {h : HdV} (w : h.Wf) : (hdC h)[18]? = some (.int .i64 h.wr.r) := (hd_in w 16 (by omega)).trans (wr_r w.wr)
theorem hd_sub {h : HdV} (w : h.Wf) (i n : Nat) (hn : i + n ≤ 81) : (hdC h).extract (2 + i) (2 + i + n) = (wrC h.wr).extract i (i + n) := by
  apply Array.ext (by simp [hdC_size w, wrC_size w.wr]; omega)
  intro j h1 h2
  have e := hd_in w (i + j) (by simp [wrC_size w.wr] at h2; omega)
  rw [← Nat.add_assoc] at e
  simp only [Array.getElem_extract]
  rw [Array.getElem?_eq_getElem (by simp at h1; omega), Array.getElem?_eq_getElem (by simp at h2; omega)] at e
  exact Option.some.inj e
theorem hd_salt {h : HdV} (w : h.Wf) : (hdC h).extract 2 (2 + 16) = (u8s h.wr.salt).toArray := (hd_sub w 0 16 (by omega)).trans (wr_salt w.wr)
theorem hd_key {h : HdV} (w : h.Wf) : (hdC h).extract 19 (19 + 32) = (u8s h.wr.key).toArray := (hd_sub w 17 32 (by omega)).trans (wr_key w.wr)
theorem hd_ck {h : HdV} (w : h.Wf) : (hdC h).extract 51 (51 + 32) = (u8s h.wr.ck).toArray := (hd_sub w 49 32 (by omega)).trans (wr_ck w.wr)
theorem hd_setver (h : HdV) (v : Int) : (hdC h).setIfInBounds 0 (.int .i64 v) = hdC { h with ver := v } := by simp [hdC, hdL]
def sameHd (a b : HdV) : Bool := (a.ver == b.ver) && ((a.pages == b.pages) && (sameWr a.wr b.wr && (a.lab == b.lab)))
theorem sameHd_iff (a b : HdV) : sameHd a b = true ↔ a = b := by
  obtain ⟨av, ap, aw, al⟩ := a
  obtain ⟨bv, bp, bw, bl⟩ := b
  simp [sameHd, sameWr_iff]
theorem sameHd_self (a : HdV) : sameHd a a = true := (sameHd_iff a a).2 rfl
/-- May it be one? -/
def mayH (h : HdV) : Bool := decide (1 ≤ h.ver ∧ h.ver ≤ 2 ∧ 1 ≤ h.pages ∧ h.pages ≤ 216 ∧ 1 ≤ h.wr.r ∧ h.wr.r ≤ 100 ∧ h.lab.length ≤ 24)
theorem mayH_iff (h : HdV) : mayH h = true ↔ (1 ≤ h.ver ∧ h.ver ≤ 2 ∧ 1 ≤ h.pages ∧ h.pages ≤ 216 ∧ 1 ≤ h.wr.r ∧ h.wr.r ≤ 100 ∧ h.lab.length ≤ 24) := by simp [mayH]
/-- The sum of all bytes. -/
def sumN (b : List (BitVec 8)) : Nat := (b.map (·.toNat)).sum % 4294967296
theorem sumN_lt (b : List (BitVec 8)) : sumN b < 4294967296 := Nat.mod_lt _ (by decide)
theorem sumN_take (b : List (BitVec 8)) (j : Nat) (h : j < b.length) : sumN (b.take (j + 1)) = (sumN (b.take j) + (b.getD j 0).toNat) % 4294967296 := by
  unfold sumN
  rw [List.take_succ_eq_append_getElem h, List.map_append, List.sum_append]
  simp [List.getD_eq_getElem?_getD, h]
def carl : List (BitVec 8) := [67, 65, 82, 76]
def hdB1 (h : HdV) : List (BitVec 8) := carl ++ (nbytes h.ver.toNat 1 ++ (nbytes h.pages.toNat 2 ++ (h.wr.salt ++ (nbytes h.wr.r.toNat 4 ++ (h.wr.key ++ (h.wr.ck ++ textB h.lab 24))))))
def hdB2 (h : HdV) : List (BitVec 8) := if h.ver = 2 then hdB1 h ++ nbytes (sumN (hdB1 h)) 4 else hdB1 h
def layH (h : HdV) : List (BitVec 8) := hdB2 h ++ List.replicate (256 - (hdB2 h).length) 0
theorem hdB1_length {h : HdV} (w : h.Wf) (hl : h.lab.length ≤ 24) : (hdB1 h).length = 116 := by
  simp [hdB1, carl, nbytes_length, w.wr.salt, w.wr.key, w.wr.ck, textB_length _ _ hl]
theorem hdB2_length {h : HdV} (w : h.Wf) (hl : h.lab.length ≤ 24) : (hdB2 h).length = if h.ver = 2 then 120 else 116 := by
  unfold hdB2; split <;> simp [hdB1_length w hl, nbytes_length]
theorem hdB2_le {h : HdV} (w : h.Wf) (hl : h.lab.length ≤ 24) : (hdB2 h).length ≤ 120 := by rw [hdB2_length w hl]; split <;> omega
theorem layH_length {h : HdV} (w : h.Wf) (hl : h.lab.length ≤ 24) : (layH h).length = 256 := by
  have e := hdB2_le w hl
  simp [layH]; omega
/-- Some bytes' head. -/
def hdOf (b : List (BitVec 8)) : HdV :=
  ⟨((b.getD 4 0).toNat : Int), (leN ((b.drop 5).take 2) : Int), ⟨(b.drop 7).take 16, (leN ((b.drop 23).take 4) : Int), (b.drop 27).take 32, (b.drop 59).take 32⟩, (b.drop 92).take (min (b.getD 91 0).toNat 24)⟩
theorem leN_lt4 (b : List (BitVec 8)) (i k m : Nat) (hm : m = 256 ^ k) : leN ((b.drop i).take k) < m := by
  subst hm
  exact Nat.lt_of_lt_of_le (leN_lt _) (Nat.pow_le_pow_right (by decide) (by rw [List.length_take]; omega))
theorem hdOf_wf (b : List (BitVec 8)) (h : b.length = 256) : (hdOf b).Wf := by
  have h0 := (b.getD 4 0).isLt
  have h1 := leN_lt4 b 5 2 65536 (by decide)
  have h2 := leN_lt4 b 23 4 4294967296 (by decide)
  refine ⟨?_, ?_, ?_, ?_, ⟨?_, ?_, ?_, ?_, ?_⟩, ?_⟩ <;> simp only [hdOf, List.length_take, List.length_drop, h] <;> omega
theorem hdOf_lab (b : List (BitVec 8)) : (hdOf b).lab.length ≤ 24 := by simp only [hdOf, List.length_take]; omega
/-- What is parsed: a head, a number. -/
def parseH (b : List (BitVec 8)) : HdV × Nat :=
  if b.length ≠ 256 then (zhd, 1) else if b.take 4 ≠ carl then (zhd, 3) else if b.getD 4 0 ≠ 1 ∧ b.getD 4 0 ≠ 2 then (zhd, 21)
  else if mayH (hdOf b) = false then (zhd, 3) else if layH (hdOf b) ≠ b then (zhd, 3) else (hdOf b, 0)
theorem parseH_wf (b : List (BitVec 8)) : (parseH b).1.Wf := by
  unfold parseH
  split
  · exact zhd_wf
  · rename_i h
    have h' : b.length = 256 := by omega
    split
    · exact zhd_wf
    · split
      · exact zhd_wf
      · split
        · exact zhd_wf
        · split
          · exact zhd_wf
          · exact hdOf_wf b h'
theorem parseH_bad (b : List (BitVec 8)) (h : (parseH b).2 ≠ 0) : (parseH b).1 = zhd := by
  unfold parseH at h ⊢
  split
  · rfl
  · rename_i h1
    rw [if_neg h1] at h
    split
    · rfl
    · rename_i h2
      rw [if_neg h2] at h
      split
      · rfl
      · rename_i h3
        rw [if_neg h3] at h
        split
        · rfl
        · rename_i h4
          rw [if_neg h4] at h
          split
          · rfl
          · rename_i h5
            rw [if_neg h5] at h
            exact absurd rfl h
theorem parseH_good (b : List (BitVec 8)) (h : (parseH b).2 = 0) : b.length = 256 ∧ (parseH b).1 = hdOf b ∧ mayH (hdOf b) = true ∧ layH (hdOf b) = b := by
  unfold parseH at h ⊢
  by_cases h1 : b.length ≠ 256
  · rw [if_pos h1] at h; cases h
  rw [if_neg h1] at h ⊢
  by_cases h2 : b.take 4 ≠ carl
  · rw [if_pos h2] at h; cases h
  rw [if_neg h2] at h ⊢
  by_cases h3 : b.getD 4 0 ≠ 1 ∧ b.getD 4 0 ≠ 2
  · rw [if_pos h3] at h; cases h
  rw [if_neg h3] at h ⊢
  by_cases h4 : mayH (hdOf b) = false
  · rw [if_pos h4] at h; cases h
  rw [if_neg h4] at h ⊢
  by_cases h5 : layH (hdOf b) ≠ b
  · rw [if_pos h5] at h; cases h
  rw [if_neg h5]
  exact ⟨by omega, rfl, by simpa using h4, Classical.not_not.1 h5⟩
theorem mid_at (X Y Z : List (BitVec 8)) (i k : Nat) (hi : i = X.length) (hk : k = Y.length) : ((X ++ (Y ++ Z)).drop i).take k = Y := by
  subst hi; subst hk
  rw [List.drop_append_of_le_length (Nat.le_refl _), List.drop_length, List.nil_append, List.take_append_of_le_length (Nat.le_refl _), List.take_length]
theorem getD_drop (b : List (BitVec 8)) (i : Nat) (x : BitVec 8) (h : (b.drop i).take 1 = [x]) : b.getD i 0 = x := by
  have e : ((b.drop i).take 1)[0]? = some x := by rw [h]; rfl
  rw [List.getElem?_take_of_lt (by omega), List.getElem?_drop, Nat.add_zero] at e
  rw [List.getD_eq_getElem?_getD, e]; rfl
theorem nbytes_1 (m : Nat) : nbytes m 1 = [BitVec.ofNat 8 m] := by simp [nbytes, nbyte, List.range_succ]
/-- What is laid is parsed. -/
theorem hdOf_lay (h : HdV) (w : h.Wf) (hm : mayH h = true) : hdOf (layH h) = h ∧ (layH h).take 4 = carl ∧ ((layH h).getD 4 0 = 1 ∨ (layH h).getD 4 0 = 2) := by
  obtain ⟨v0, v1, p0, p1, r0, r1, hl⟩ := (mayH_iff h).1 hm
  obtain ⟨T, hT⟩ : ∃ T, layH h = hdB1 h ++ T := by
    unfold layH hdB2
    split
    · exact ⟨_, List.append_assoc _ _ _⟩
    · exact ⟨_, rfl⟩
  have e1 : BitVec.ofNat 8 h.lab.length :: h.lab = [BitVec.ofNat 8 h.lab.length] ++ h.lab := rfl
  have hb : layH h = carl ++ (nbytes h.ver.toNat 1 ++ (nbytes h.pages.toNat 2 ++ (h.wr.salt ++ (nbytes h.wr.r.toNat 4 ++ (h.wr.key ++ (h.wr.ck ++ ([BitVec.ofNat 8 h.lab.length] ++ (h.lab ++ (List.replicate (24 - h.lab.length) 0 ++ T))))))))) := by
    rw [hT]; simp only [hdB1, textB, e1, List.append_assoc]
  have a0 : (layH h).take 4 = carl := by rw [hb]; rfl
  have ls := w.wr.salt
  have lk := w.wr.key
  have lc := w.wr.ck
  obtain ⟨b, hbb⟩ : ∃ b, b = layH h := ⟨_, rfl⟩
  rw [← hbb] at hb a0 ⊢
  have a4 : (b.drop 4).take 1 = [BitVec.ofNat 8 h.ver.toNat] := by
    rw [← nbytes_1, hb]; exact mid_at carl _ _ 4 1 rfl (nbytes_length _ _).symm
  have a5 : (b.drop 5).take 2 = nbytes h.pages.toNat 2 := by
    rw [hb, ← List.append_assoc carl]
    exact mid_at _ _ _ 5 2 (by simp [carl, nbytes_length]) (nbytes_length _ _).symm
  have a7 : (b.drop 7).take 16 = h.wr.salt := by
    rw [hb, ← List.append_assoc carl, ← List.append_assoc (carl ++ _)]
    exact mid_at _ _ _ 7 16 (by simp [carl, nbytes_length]) ls.symm
  have a23 : (b.drop 23).take 4 = nbytes h.wr.r.toNat 4 := by
    rw [hb, ← List.append_assoc carl, ← List.append_assoc (carl ++ _), ← List.append_assoc (carl ++ _ ++ _)]
    exact mid_at _ _ _ 23 4 (by simp [carl, nbytes_length, ls]) (nbytes_length _ _).symm
  have a27 : (b.drop 27).take 32 = h.wr.key := by
    rw [hb, ← List.append_assoc carl, ← List.append_assoc (carl ++ _), ← List.append_assoc (carl ++ _ ++ _), ← List.append_assoc (carl ++ _ ++ _ ++ _)]
    exact mid_at _ _ _ 27 32 (by simp [carl, nbytes_length, ls]) lk.symm
  have a59 : (b.drop 59).take 32 = h.wr.ck := by
    rw [hb, ← List.append_assoc carl, ← List.append_assoc (carl ++ _), ← List.append_assoc (carl ++ _ ++ _), ← List.append_assoc (carl ++ _ ++ _ ++ _), ← List.append_assoc (carl ++ _ ++ _ ++ _ ++ _)]
    exact mid_at _ _ _ 59 32 (by simp [carl, nbytes_length, ls, lk]) lc.symm
  have a91 : (b.drop 91).take 1 = [BitVec.ofNat 8 h.lab.length] := by
    rw [hb, ← List.append_assoc carl, ← List.append_assoc (carl ++ _), ← List.append_assoc (carl ++ _ ++ _), ← List.append_assoc (carl ++ _ ++ _ ++ _), ← List.append_assoc (carl ++ _ ++ _ ++ _ ++ _), ← List.append_assoc (carl ++ _ ++ _ ++ _ ++ _ ++ _)]
    exact mid_at _ _ _ 91 1 (by simp [carl, nbytes_length, ls, lk, lc]) rfl
  have a92 : (b.drop 92).take h.lab.length = h.lab := by
    rw [hb, ← List.append_assoc carl, ← List.append_assoc (carl ++ _), ← List.append_assoc (carl ++ _ ++ _), ← List.append_assoc (carl ++ _ ++ _ ++ _), ← List.append_assoc (carl ++ _ ++ _ ++ _ ++ _), ← List.append_assoc (carl ++ _ ++ _ ++ _ ++ _ ++ _), ← List.append_assoc (carl ++ _ ++ _ ++ _ ++ _ ++ _ ++ _)]
    exact mid_at _ _ _ 92 _ (by simp [carl, nbytes_length, ls, lk, lc]) rfl
  have g4 := getD_drop b 4 _ a4
  have g91 := getD_drop b 91 _ a91
  have n4 : (BitVec.ofNat 8 h.ver.toNat).toNat = h.ver.toNat := by rw [BitVec.toNat_ofNat]; omega
  have n91 : (BitVec.ofNat 8 h.lab.length).toNat = h.lab.length := by rw [BitVec.toNat_ofNat]; omega
  refine ⟨?_, a0, ?_⟩
  · unfold hdOf
    rw [g4, g91, a5, a7, a23, a27, a59, n4, n91, Nat.min_eq_left hl, a92, leN_nbytes, leN_nbytes]
    have f1 : ((h.ver.toNat : Nat) : Int) = h.ver := by omega
    have f2 : ((h.pages.toNat % 256 ^ 2 : Nat) : Int) = h.pages := by rw [Nat.mod_eq_of_lt (by omega)]; omega
    have f3 : ((h.wr.r.toNat % 256 ^ 4 : Nat) : Int) = h.wr.r := by rw [Nat.mod_eq_of_lt (by omega)]; omega
    rw [f1, f2, f3]
  · rw [g4]
    have : h.ver = 1 ∨ h.ver = 2 := by omega
    rcases this with e | e <;> rw [e]
    · exact .inl rfl
    · exact .inr rfl
theorem parse_lay (h : HdV) (w : h.Wf) (hm : mayH h = true) : parseH (layH h) = (h, 0) := by
  obtain ⟨e1, e2, e3⟩ := hdOf_lay h w hm
  have hl := ((mayH_iff h).1 hm).2.2.2.2.2.2
  unfold parseH
  rw [if_neg (by rw [layH_length w hl]; decide), if_neg (by rw [e2]; decide), if_neg (by rintro ⟨h1, h2⟩; rcases e3 with e | e; exact h1 e; exact h2 e), e1, if_neg (by rw [hm]; decide), if_neg (fun h => h rfl)]
/-- Made newer. -/
def upH (h : HdV) : HdV × Nat := if mayH h = false then (zhd, 1) else if h.ver = 2 then (zhd, 21) else ({ h with ver := 2 }, 0)
theorem upH_wf (h : HdV) (w : h.Wf) : (upH h).1.Wf := by
  unfold upH
  split
  · exact zhd_wf
  · split
    · exact zhd_wf
    · exact ⟨by show (-9223372036854775808 : Int) ≤ 2; decide, by show (2 : Int) ≤ 9223372036854775807; decide, w.p0, w.p1, w.wr, w.lab⟩
theorem up_twice (h : HdV) (hm : mayH h = true) (hv : h.ver ≠ 2) : upH h = ({ h with ver := 2 }, 0) ∧ upH { h with ver := 2 } = (zhd, 21) ∧ h.ver = 1 := by
  obtain ⟨v0, v1, r⟩ := (mayH_iff h).1 hm
  refine ⟨?_, ?_, by omega⟩
  · unfold upH; rw [if_neg (by rw [hm]; decide), if_neg hv]
  · have : mayH { h with ver := 2 } = true := (mayH_iff _).2 ⟨by show (1 : Int) ≤ 2; decide, by show (2 : Int) ≤ 2; decide, r⟩
    unfold upH
    rw [if_neg (by rw [this]; decide)]; rfl
end Sha
end Go.Proofs.Ytbnjihpafipbnaa
namespace Go.Proofs.Ytbnjihpafipbnaa
namespace Sha
open Go.RowKit Mem
set_option maxRecDepth 100000
theorem zeroWrR (w : World) : (zeroValue 25).run Try.prog w = .ok (.agg (wrC zwr)) w := by kernel_rfl
theorem zeroWrP (w : World) : (zeroValue 33).run Try.prog w = .ok (.agg (wrC zwr)) w := by kernel_rfl
theorem buildWR0 (w : World) : (Instr.build 25 #[]).run Try.prog w = .ok (.agg (wrC zwr)) w := by kernel_rfl
theorem buildWP0 (w : World) : (Instr.build 33 #[]).run Try.prog w = .ok (.agg (wrC zwr)) w := by kernel_rfl
theorem infoWrR : (Try.prog.info? 25).map (·.size) = some 81 := by kernel_rfl
theorem infoWrP : (Try.prog.info? 33).map (·.size) = some 81 := by kernel_rfl
theorem infoS16 : (Try.prog.info? 22).map (·.size) = some 16 := by kernel_rfl
theorem eq16 (d : Nat) (l m : List (BitVec 8)) (hl : l.length = 16) (hm : m.length = 16) (w : World) : (Op.equalIn (d + 2) 22 (.agg (u8s l).toArray) (.agg (u8s m).toArray)).run Try.prog w = .ok (l == m) w := by
  have e1 : ∀ k : List (BitVec 8), u8s k = (k.map fun x => (x.toNat : Int)).map (Value.int .u8) := fun k => by simp [u8s]
  have h := run_equalIn_ints (P := Try.prog) w d 22 5 .u8 16 Try.underlying22 Try.underlying5 sizeB1 (l.map fun x => (x.toNat : Int)) (m.map fun x => (x.toNat : Int)) (by simpa using hl) (by simpa using hm)
  rw [e1, e1, h]
  congr 1
  rw [Bool.eq_iff_iff, beq_iff_eq, beq_iff_eq]
  exact (List.map_inj_right (fun a b h => by apply BitVec.eq_of_toNat_eq; omega)).trans Iff.rfl
theorem eqlS (l m : List (BitVec 8)) (hl : l.length = 16) (hm : m.length = 16) (x y : Operand) (w : World) : (do eqGuard .eql 22 x y (.agg (u8s l).toArray) (.agg (u8s m).toArray); binOp .eql 22 (.agg (u8s l).toArray) (.agg (u8s m).toArray) : Sem Value).run Try.prog w = .ok (.bool (l == m)) w := by
  rw [Sem.run_bind, run_eqGuard_agg w .eql 22 x y _ _ (by kernel_rfl), Result.andThen_ok, run_eql_struct, eq16 9998 l m hl hm w]; rfl
theorem parts_wr {a b : WrV} (ha : a.Wf) (hb : b.Wf) (d : Nat) (w : World) : (eqParts (d + 2) (wrC a) (wrC b) [(true, 22, 0), (true, 3, 16), (true, 23, 17), (true, 23, 49)]).run Try.prog w = .ok (sameWr a b) w := by
  have e : sameWr a b = ((a.salt == b.salt) && ((a.r == b.r) && ((a.key == b.key) && ((a.ck == b.ck) && true)))) := by simp [sameWr]
  rw [e]
  refine eqParts_cons (run_part_arr w _ _ 16 16 Try.underlying22 infoS16 _ 0 _ (wr_salt ha)) (run_part_arr w _ _ 16 16 Try.underlying22 infoS16 _ 0 _ (wr_salt hb)) (eq16 d _ _ ha.salt hb.salt w) ?_
  refine eqParts_cons (run_part_int w 3 .i64 Try.underlying3 (wrC a) 16 _ (wr_r ha)) (run_part_int w 3 .i64 Try.underlying3 (wrC b) 16 _ (wr_r hb)) (run_equalIn_int w (d + 1) 3 .i64 .i64 _ _ Try.underlying3) ?_
  refine eqParts_cons (run_part_arr w _ _ 32 32 Try.underlying23 infoDg _ 17 _ (wr_key ha)) (run_part_arr w _ _ 32 32 Try.underlying23 infoDg _ 17 _ (wr_key hb)) (eq32 d _ _ ha.key hb.key w) ?_
  exact eqParts_cons (run_part_arr w _ _ 32 32 Try.underlying23 infoDg _ 49 _ (wr_ck ha)) (run_part_arr w _ _ 32 32 Try.underlying23 infoDg _ 49 _ (wr_ck hb)) (eq32 d _ _ ha.ck hb.ck w) rfl
theorem eqlWr (t : TypeId) (hf : (Try.prog.fieldsOf t).toList.map (fun f => (decide (f.name ≠ "_"), f.type, f.offset)) = [(true, 22, 0), (true, 3, 16), (true, 23, 17), (true, 23, 49)])
    (hu : Try.prog.underlying t = some (.struct (Try.prog.fieldsOf t))) (hp : Try.prog.stoodInHeld t = false) (hg : Try.prog.eqGuardType Try.prog.depth t = false) {a b : WrV} (ha : a.Wf) (hb : b.Wf) (x y : Operand) (w : World) :
    (do eqGuard .eql t x y (.agg (wrC a)) (.agg (wrC b)); binOp .eql t (.agg (wrC a)) (.agg (wrC b)) : Sem Value).run Try.prog w = .ok (.bool (sameWr a b)) w := by
  have h := run_equalIn_agg w 9999 t (wrC a) (wrC b) hu hp
  rw [eqFields_parts, hf, parts_wr ha hb 9997 w] at h
  rw [Sem.run_bind, run_eqGuard_agg w .eql t x y _ _ hg, Result.andThen_ok, run_eql_struct, h]; rfl
theorem eqlWR {a b : WrV} (ha : a.Wf) (hb : b.Wf) (x y : Operand) (w : World) : (do eqGuard .eql 25 x y (.agg (wrC a)) (.agg (wrC b)); binOp .eql 25 (.agg (wrC a)) (.agg (wrC b)) : Sem Value).run Try.prog w = .ok (.bool (sameWr a b)) w :=
  eqlWr _ (by kernel_rfl) (by kernel_rfl) (by kernel_rfl) (by kernel_rfl) ha hb x y w
theorem eqlWP {a b : WrV} (ha : a.Wf) (hb : b.Wf) (x y : Operand) (w : World) : (do eqGuard .eql 33 x y (.agg (wrC a)) (.agg (wrC b)); binOp .eql 33 (.agg (wrC a)) (.agg (wrC b)) : Sem Value).run Try.prog w = .ok (.bool (sameWr a b)) w :=
  eqlWr _ (by kernel_rfl) (by kernel_rfl) (by kernel_rfl) (by kernel_rfl) ha hb x y w
end Sha
end Go.Proofs.Ytbnjihpafipbnaa
namespace Go.Proofs.Ytbnjihpafipbnaa
namespace Sha
open Go.RowKit Mem
set_option maxRecDepth 100000
theorem zeroHdR (w : World) : (zeroValue 27).run Try.prog w = .ok (.agg (hdC zhd)) w := by kernel_rfl
theorem zeroHdP (w : World) : (zeroValue 35).run Try.prog w = .ok (.agg (hdC zhd)) w := by kernel_rfl
theorem buildHR0 (w : World) : (Instr.build 27 #[]).run Try.prog w = .ok (.agg (hdC zhd)) w := run_build w _ _ _ (by kernel_rfl)
theorem buildHP0 (w : World) : (Instr.build 35 #[]).run Try.prog w = .ok (.agg (hdC zhd)) w := run_build w _ _ _ (by kernel_rfl)
theorem buildHP1 (v : Int) (w : World) : (Instr.build 35 #[(0, .int .i64 v)]).run Try.prog w = .ok (.agg (hdC ⟨v, 0, zwr, []⟩)) w := run_build w _ _ _ (by kernel_rfl)
theorem buildHR2 (v p : Int) (w : World) : (Instr.build 27 #[(0, .int .i64 v), (1, .int .i64 p)]).run Try.prog w = .ok (.agg (hdC ⟨v, p, zwr, []⟩)) w := run_build w _ _ _ (by kernel_rfl)
def wr3 : WrV := ⟨z16, 3, z32, z32⟩
theorem wr3_wf : wr3.Wf := ⟨rfl, by decide, by decide, rfl, rfl⟩
def hd9 : HdV := ⟨1, 9, wr3, [120]⟩
theorem hd9_wf : hd9.Wf := ⟨by decide, by decide, by decide, by decide, wr3_wf, by decide⟩
theorem buildW3 (w : World) : (Instr.build 33 #[(1, .int .i64 3)]).run Try.prog w = .ok (.agg (wrC wr3)) w := run_build w _ _ _ (by kernel_rfl)
theorem buildH9 (w : World) : (Instr.build 35 #[(0, .int .i64 1), (1, .int .i64 9), (2, .agg (wrC wr3)), (3, .string { data := #[120] })]).run Try.prog w = .ok (.agg (hdC hd9)) w := run_build w _ _ _ (by kernel_rfl)
theorem infoHdR : (Try.prog.info? 27).map (·.size) = some 84 := by kernel_rfl
theorem infoHdP : (Try.prog.info? 35).map (·.size) = some 84 := by kernel_rfl
theorem buildHP4' (v p r : Int) (t : ByteArray) (s0 s1 s2 s3 s4 s5 s6 s7 s8 s9 s10 s11 s12 s13 s14 s15 k0 k1 k2 k3 k4 k5 k6 k7 k8 k9 k10 k11 k12 k13 k14 k15 k16 k17 k18 k19 k20 k21 k22 k23 k24 k25 k26 k27 k28 k29 k30 k31 c0 c1 c2 c3 c4 c5 c6 c7 c8 c9 c10 c11 c12 c13 c14 c15 c16 c17 c18 c19 c20 c21 c22 c23 c24 c25 c26 c27 c28 c29 c30 c31 : BitVec 8) (w : World) : (Instr.build 35 #[(0, .int .i64 v), (1, .int .i64 p), (2, .agg (wrC ⟨[s0, s1, s2, s3, s4, s5, s6, s7, s8, s9, s10, s11, s12, s13, s14, s15], r, [k0, k1, k2, k3, k4, k5, k6, k7, k8, k9, k10, k11, k12, k13, k14, k15, k16, k17, k18, k19, k20, k21, k22, k23, k24, k25, k26, k27, k28, k29, k30, k31], [c0, c1, c2, c3, c4, c5, c6, c7, c8, c9, c10, c11, c12, c13, c14, c15, c16, c17, c18, c19, c20, c21, c22, c23, c24, c25, c26, c27, c28, c29, c30, c31]⟩)), (3, .string t)]).run Try.prog w = .ok (.agg ((([.int .i64 v, .int .i64 p] : List Value) ++ (wrL ⟨[s0, s1, s2, s3, s4, s5, s6, s7, s8, s9, s10, s11, s12, s13, s14, s15], r, [k0, k1, k2, k3, k4, k5, k6, k7, k8, k9, k10, k11, k12, k13, k14, k15, k16, k17, k18, k19, k20, k21, k22, k23, k24, k25, k26, k27, k28, k29, k30, k31], [c0, c1, c2, c3, c4, c5, c6, c7, c8, c9, c10, c11, c12, c13, c14, c15, c16, c17, c18, c19, c20, c21, c22, c23, c24, c25, c26, c27, c28, c29, c30, c31]⟩ ++ [Value.string t])).toArray)) w := run_build w _ _ _ (by kernel_rfl)
theorem buildHP4 (h : HdV) (hw : h.Wf) (w : World) : (Instr.build 35 #[(0, .int .i64 h.ver), (1, .int .i64 h.pages), (2, .agg (wrC h.wr)), (3, .string (strOfNums (i8s h.lab)))]).run Try.prog w = .ok (.agg (hdC h)) w := by
  obtain ⟨v, p, ⟨s, r, k, c⟩, t⟩ := h
  have hs := hw.wr.salt; have hk := hw.wr.key; have hc := hw.wr.ck
  unfold hdC hdL
  clear hw
  simp only at hs hk hc
  match s, hs, k, hk, c, hc with
  | [s0, s1, s2, s3, s4, s5, s6, s7, s8, s9, s10, s11, s12, s13, s14, s15], _, [k0, k1, k2, k3, k4, k5, k6, k7, k8, k9, k10, k11, k12, k13, k14, k15, k16, k17, k18, k19, k20, k21, k22, k23, k24, k25, k26, k27, k28, k29, k30, k31], _, [c0, c1, c2, c3, c4, c5, c6, c7, c8, c9, c10, c11, c12, c13, c14, c15, c16, c17, c18, c19, c20, c21, c22, c23, c24, c25, c26, c27, c28, c29, c30, c31], _ => exact buildHP4' ..
theorem buildHR4' (v p r : Int) (t : ByteArray) (s0 s1 s2 s3 s4 s5 s6 s7 s8 s9 s10 s11 s12 s13 s14 s15 k0 k1 k2 k3 k4 k5 k6 k7 k8 k9 k10 k11 k12 k13 k14 k15 k16 k17 k18 k19 k20 k21 k22 k23 k24 k25 k26 k27 k28 k29 k30 k31 c0 c1 c2 c3 c4 c5 c6 c7 c8 c9 c10 c11 c12 c13 c14 c15 c16 c17 c18 c19 c20 c21 c22 c23 c24 c25 c26 c27 c28 c29 c30 c31 : BitVec 8) (w : World) : (Instr.build 27 #[(0, .int .i64 v), (1, .int .i64 p), (2, .agg (wrC ⟨[s0, s1, s2, s3, s4, s5, s6, s7, s8, s9, s10, s11, s12, s13, s14, s15], r, [k0, k1, k2, k3, k4, k5, k6, k7, k8, k9, k10, k11, k12, k13, k14, k15, k16, k17, k18, k19, k20, k21, k22, k23, k24, k25, k26, k27, k28, k29, k30, k31], [c0, c1, c2, c3, c4, c5, c6, c7, c8, c9, c10, c11, c12, c13, c14, c15, c16, c17, c18, c19, c20, c21, c22, c23, c24, c25, c26, c27, c28, c29, c30, c31]⟩)), (3, .string t)]).run Try.prog w = .ok (.agg ((([.int .i64 v, .int .i64 p] : List Value) ++ (wrL ⟨[s0, s1, s2, s3, s4, s5, s6, s7, s8, s9, s10, s11, s12, s13, s14, s15], r, [k0, k1, k2, k3, k4, k5, k6, k7, k8, k9, k10, k11, k12, k13, k14, k15, k16, k17, k18, k19, k20, k21, k22, k23, k24, k25, k26, k27, k28, k29, k30, k31], [c0, c1, c2, c3, c4, c5, c6, c7, c8, c9, c10, c11, c12, c13, c14, c15, c16, c17, c18, c19, c20, c21, c22, c23, c24, c25, c26, c27, c28, c29, c30, c31]⟩ ++ [Value.string t])).toArray)) w := run_build w _ _ _ (by kernel_rfl)
theorem buildHR4 (h : HdV) (hw : h.Wf) (w : World) : (Instr.build 27 #[(0, .int .i64 h.ver), (1, .int .i64 h.pages), (2, .agg (wrC h.wr)), (3, .string (strOfNums (i8s h.lab)))]).run Try.prog w = .ok (.agg (hdC h)) w := by
  obtain ⟨v, p, ⟨s, r, k, c⟩, t⟩ := h
  have hs := hw.wr.salt; have hk := hw.wr.key; have hc := hw.wr.ck
  unfold hdC hdL
  clear hw
  simp only at hs hk hc
  match s, hs, k, hk, c, hc with
  | [s0, s1, s2, s3, s4, s5, s6, s7, s8, s9, s10, s11, s12, s13, s14, s15], _, [k0, k1, k2, k3, k4, k5, k6, k7, k8, k9, k10, k11, k12, k13, k14, k15, k16, k17, k18, k19, k20, k21, k22, k23, k24, k25, k26, k27, k28, k29, k30, k31], _, [c0, c1, c2, c3, c4, c5, c6, c7, c8, c9, c10, c11, c12, c13, c14, c15, c16, c17, c18, c19, c20, c21, c22, c23, c24, c25, c26, c27, c28, c29, c30, c31], _ => exact buildHR4' ..
theorem run_part_struct {P : Program} (w : World) (t : TypeId) (m : Nat) (hu : P.underlying t = some (.struct (P.fieldsOf t))) (hs : (P.info? t).map (·.size) = some m) (xs : Array Value) (o : Nat) (R : Array Value) (h : xs.extract o (o + m) = R) : (part t xs o).run P w = .ok (.agg R) w := by
  cases hq : P.info? t with
  | none => simp [hq] at hs
  | some q =>
    have hm : q.size = m := by simpa [hq] using hs
    simp [part, isAgg, run_underlying hu, sizeOf, typeInfo, hq, hm, h]
theorem run_part_string {P : Program} (w : World) (t : TypeId) (hu : P.underlying t = some .string) (xs : Array Value) (o : Nat) (v : Value) (h : xs[o]? = some v) : (part t xs o).run P w = .ok v w := by
  simp [part, isAgg, run_underlying hu, h]
theorem eqInWr (t : TypeId) (hf : (Try.prog.fieldsOf t).toList.map (fun f => (decide (f.name ≠ "_"), f.type, f.offset)) = [(true, 22, 0), (true, 3, 16), (true, 23, 17), (true, 23, 49)])
    (hu : Try.prog.underlying t = some (.struct (Try.prog.fieldsOf t))) (hp : Try.prog.stoodInHeld t = false) {a b : WrV} (ha : a.Wf) (hb : b.Wf) (d : Nat) (w : World) : (Op.equalIn (d + 3) t (.agg (wrC a)) (.agg (wrC b))).run Try.prog w = .ok (sameWr a b) w := by
  rw [run_equalIn_agg w (d + 2) t (wrC a) (wrC b) hu hp, eqFields_parts, hf, parts_wr ha hb d w]
theorem eqlHd (t t2 : TypeId) (hf : (Try.prog.fieldsOf t).toList.map (fun f => (decide (f.name ≠ "_"), f.type, f.offset)) = [(true, 3, 0), (true, 3, 1), (true, t2, 2), (true, 9, 83)])
    (hf2 : (Try.prog.fieldsOf t2).toList.map (fun f => (decide (f.name ≠ "_"), f.type, f.offset)) = [(true, 22, 0), (true, 3, 16), (true, 23, 17), (true, 23, 49)])
    (hu : Try.prog.underlying t = some (.struct (Try.prog.fieldsOf t))) (hu2 : Try.prog.underlying t2 = some (.struct (Try.prog.fieldsOf t2))) (hi2 : (Try.prog.info? t2).map (·.size) = some 81) (hp : Try.prog.stoodInHeld t = false) (hp2 : Try.prog.stoodInHeld t2 = false) (hg : Try.prog.eqGuardType Try.prog.depth t = false) {a b : HdV} (ha : a.Wf) (hb : b.Wf) (x y : Operand) (w : World) :
    (do eqGuard .eql t x y (.agg (hdC a)) (.agg (hdC b)); binOp .eql t (.agg (hdC a)) (.agg (hdC b)) : Sem Value).run Try.prog w = .ok (.bool (sameHd a b)) w ∧
    (do eqGuard .neq t x y (.agg (hdC a)) (.agg (hdC b)); binOp .neq t (.agg (hdC a)) (.agg (hdC b)) : Sem Value).run Try.prog w = .ok (.bool (!sameHd a b)) w := by
  have h := run_equalIn_agg w 9999 t (hdC a) (hdC b) hu hp
  have e : sameHd a b = ((a.ver == b.ver) && ((a.pages == b.pages) && (sameWr a.wr b.wr && (((strOfNums (i8s a.lab)).toList == (strOfNums (i8s b.lab)).toList) && true)))) := by
    rw [str_inj]; simp [sameHd]
    by_cases hh : a.lab = b.lab <;> simp [hh]
  have hq : (eqParts 9999 (hdC a) (hdC b) [(true, 3, 0), (true, 3, 1), (true, t2, 2), (true, 9, 83)]).run Try.prog w = .ok (sameHd a b) w := by
    rw [e]
    refine eqParts_cons (run_part_int w 3 .i64 Try.underlying3 (hdC a) 0 _ (hd_ver a)) (run_part_int w 3 .i64 Try.underlying3 (hdC b) 0 _ (hd_ver b)) (run_equalIn_int w 9998 3 .i64 .i64 _ _ Try.underlying3) ?_
    refine eqParts_cons (run_part_int w 3 .i64 Try.underlying3 (hdC a) 1 _ (hd_pages a)) (run_part_int w 3 .i64 Try.underlying3 (hdC b) 1 _ (hd_pages b)) (run_equalIn_int w 9998 3 .i64 .i64 _ _ Try.underlying3) ?_
    refine eqParts_cons (run_part_struct w t2 81 hu2 hi2 _ 2 _ (hd_wr ha)) (run_part_struct w t2 81 hu2 hi2 _ 2 _ (hd_wr hb)) (eqInWr t2 hf2 hu2 hp2 ha.wr hb.wr 9996 w) ?_
    exact eqParts_cons (run_part_string w 9 Try.underlying9 (hdC a) 83 _ (hd_lab ha)) (run_part_string w 9 Try.underlying9 (hdC b) 83 _ (hd_lab hb)) (run_equalIn_string w 9998 9 _ _ Try.underlying9) rfl
  rw [eqFields_parts, hf, hq] at h
  constructor
  · rw [Sem.run_bind, run_eqGuard_agg w .eql t x y _ _ hg, Result.andThen_ok, run_eql_struct, h]; rfl
  · rw [Sem.run_bind, run_eqGuard_agg w .neq t x y _ _ hg, Result.andThen_ok, run_neq_struct, h]; rfl
theorem eqlHR {a b : HdV} (ha : a.Wf) (hb : b.Wf) (x y : Operand) (w : World) : (do eqGuard .eql 27 x y (.agg (hdC a)) (.agg (hdC b)); binOp .eql 27 (.agg (hdC a)) (.agg (hdC b)) : Sem Value).run Try.prog w = .ok (.bool (sameHd a b)) w :=
  (eqlHd _ 25 (by kernel_rfl) (by kernel_rfl) (by kernel_rfl) (by kernel_rfl) (by kernel_rfl) (by kernel_rfl) (by kernel_rfl) (by kernel_rfl) ha hb x y w).1
theorem eqlHP {a b : HdV} (ha : a.Wf) (hb : b.Wf) (x y : Operand) (w : World) : (do eqGuard .eql 35 x y (.agg (hdC a)) (.agg (hdC b)); binOp .eql 35 (.agg (hdC a)) (.agg (hdC b)) : Sem Value).run Try.prog w = .ok (.bool (sameHd a b)) w :=
  (eqlHd _ 33 (by kernel_rfl) (by kernel_rfl) (by kernel_rfl) (by kernel_rfl) (by kernel_rfl) (by kernel_rfl) (by kernel_rfl) (by kernel_rfl) ha hb x y w).1
theorem neqHP {a b : HdV} (ha : a.Wf) (hb : b.Wf) (x y : Operand) (w : World) : (do eqGuard .neq 35 x y (.agg (hdC a)) (.agg (hdC b)); binOp .neq 35 (.agg (hdC a)) (.agg (hdC b)) : Sem Value).run Try.prog w = .ok (.bool (!sameHd a b)) w :=
  (eqlHd _ 33 (by kernel_rfl) (by kernel_rfl) (by kernel_rfl) (by kernel_rfl) (by kernel_rfl) (by kernel_rfl) (by kernel_rfl) (by kernel_rfl) ha hb x y w).2
end Sha
end Go.Proofs.Ytbnjihpafipbnaa
namespace Go.Proofs.Ytbnjihpafipbnaa
namespace Sha
open Go.RowKit Mem
theorem hdL_flat (h : HdV) : hdL h = [.int .i64 h.ver, .int .i64 h.pages] ++ (u8s h.wr.salt ++ ([.int .i64 h.wr.r] ++ (u8s h.wr.key ++ (u8s h.wr.ck ++ [.string (strOfNums (i8s h.lab))])))) := by simp [hdL, wrL]
theorem u8s_lset (l : List (BitVec 8)) (i : Nat) (x : BitVec 8) : (u8s l).set i (.int .u8 (x.toNat : Int)) = u8s (l.set i x) := by simp [u8s, List.map_set]
theorem hd_setSalt (h : HdV) (i : Nat) (x : BitVec 8) (hi : i < h.wr.salt.length) : (hdC h).setIfInBounds (2 + i) (.int .u8 (x.toNat : Int)) = hdC { h with wr := { h.wr with salt := h.wr.salt.set i x } } := by
  apply Array.ext'
  simp only [hdC, hdL_flat, List.setIfInBounds_toArray]
  rw [List.set_append_right _ _ (by simp), show 2 + i - [Value.int .i64 h.ver, Value.int .i64 h.pages].length = i by simp, List.set_append_left _ _ (by rw [u8s_length]; exact hi), u8s_lset]
theorem hd_setR (h : HdV) (hs : h.wr.salt.length = 16) (r : Int) : (hdC h).setIfInBounds 18 (.int .i64 r) = hdC { h with wr := { h.wr with r := r } } := by
  apply Array.ext'
  simp only [hdC, hdL_flat, List.setIfInBounds_toArray]
  rw [List.set_append_right _ _ (by simp), show 18 - [Value.int .i64 h.ver, Value.int .i64 h.pages].length = 16 by simp, List.set_append_right _ _ (by rw [u8s_length, hs]; exact Nat.le_refl _), u8s_length, hs]
  rfl
theorem hd_setKey (h : HdV) (hs : h.wr.salt.length = 16) (i : Nat) (x : BitVec 8) (hi : i < h.wr.key.length) : (hdC h).setIfInBounds (19 + i) (.int .u8 (x.toNat : Int)) = hdC { h with wr := { h.wr with key := h.wr.key.set i x } } := by
  apply Array.ext'
  simp only [hdC, hdL_flat, List.setIfInBounds_toArray]
  rw [List.set_append_right _ _ (by simp; omega), show 19 + i - [Value.int .i64 h.ver, Value.int .i64 h.pages].length = 17 + i by simp; omega, List.set_append_right _ _ (by rw [u8s_length, hs]; omega), u8s_length, hs, show 17 + i - 16 = i + 1 by omega, List.set_append_right _ _ (by simp), show i + 1 - [Value.int .i64 h.wr.r].length = i by simp, List.set_append_left _ _ (by rw [u8s_length]; exact hi), u8s_lset]
theorem hd_setCk (h : HdV) (hs : h.wr.salt.length = 16) (hk : h.wr.key.length = 32) (i : Nat) (x : BitVec 8) (hi : i < h.wr.ck.length) : (hdC h).setIfInBounds (51 + i) (.int .u8 (x.toNat : Int)) = hdC { h with wr := { h.wr with ck := h.wr.ck.set i x } } := by
  apply Array.ext'
  simp only [hdC, hdL_flat, List.setIfInBounds_toArray]
  rw [List.set_append_right _ _ (by simp; omega), show 51 + i - [Value.int .i64 h.ver, Value.int .i64 h.pages].length = 49 + i by simp; omega, List.set_append_right _ _ (by rw [u8s_length, hs]; omega), u8s_length, hs, show 49 + i - 16 = i + 33 by omega, List.set_append_right _ _ (by simp), show i + 33 - [Value.int .i64 h.wr.r].length = i + 32 by simp, List.set_append_right _ _ (by rw [u8s_length, hk]; omega), u8s_length, hk, show i + 32 - 32 = i by omega, List.set_append_left _ _ (by rw [u8s_length]; exact hi), u8s_lset]
theorem hd_setLab (h : HdV) (hw : h.wr.Wf) (l : List (BitVec 8)) : (hdC h).setIfInBounds 83 (.string (strOfNums (i8s l))) = hdC { h with lab := l } := by
  have e := wrL_length hw
  apply Array.ext'
  simp only [hdC, hdL, List.setIfInBounds_toArray]
  rw [List.set_append_right _ _ (by simp), show 83 - [Value.int .i64 h.ver, Value.int .i64 h.pages].length = 81 by simp, List.set_append_right _ _ (by rw [e]; exact Nat.le_refl _), e]
  rfl
/-- The head with i bytes of the salt, the rounds r, k bytes of the key and of the check, and a label. -/
def hdAt (b : List (BitVec 8)) (i : Nat) (r : Int) (k m : Nat) (l : List (BitVec 8)) : HdV :=
  ⟨((b.getD 4 0).toNat : Int), (leN ((b.drop 5).take 2) : Int), ⟨rowZ ((b.drop 7).take 16) 16 i, r, rowZ ((b.drop 27).take 32) 32 k, rowZ ((b.drop 59).take 32) 32 m⟩, l⟩
theorem piece_len (b : List (BitVec 8)) (hb : b.length = 256) (i n : Nat) (h : i + n ≤ 256) : ((b.drop i).take n).length = n := by rw [List.length_take, List.length_drop]; omega
theorem piece_getD (b : List (BitVec 8)) (i n j : Nat) (h : j < n) : ((b.drop i).take n).getD j 0 = b.getD (i + j) 0 := by simp [List.getD_eq_getElem?_getD, h]
theorem hdAt_wf (b : List (BitVec 8)) (hb : b.length = 256) (i : Nat) (r : Int) (k m : Nat) (l : List (BitVec 8)) (hi : i ≤ 16) (hk : k ≤ 32) (hm : m ≤ 32) (h0 : -9223372036854775808 ≤ r) (h1 : r ≤ 9223372036854775807) (hl : l.length ≤ 9223372036854775807) : (hdAt b i r k m l).Wf := by
  have h2 := (b.getD 4 0).isLt
  have h3 := leN_lt4 b 5 2 65536 (by decide)
  exact ⟨by show _ ≤ ((b.getD 4 0).toNat : Int); omega, by show ((b.getD 4 0).toNat : Int) ≤ _; omega, by show _ ≤ ((leN ((b.drop 5).take 2) : Nat) : Int); omega, by show ((leN ((b.drop 5).take 2) : Nat) : Int) ≤ _; omega, ⟨rowZ_length _ 16 i (piece_len b hb 7 16 (by decide)) hi, h0, h1, rowZ_length _ 32 k (piece_len b hb 27 32 (by decide)) hk, rowZ_length _ 32 m (piece_len b hb 59 32 (by decide)) hm⟩, hl⟩
theorem hdAt_0 (b : List (BitVec 8)) : hdAt b 0 0 0 0 [] = ⟨((b.getD 4 0).toNat : Int), (leN ((b.drop 5).take 2) : Int), zwr, []⟩ := rfl
theorem hdAt_salt (b : List (BitVec 8)) (hb : b.length = 256) (i : Nat) (hi : i < 16) : (hdC (hdAt b i 0 0 0 [])).setIfInBounds (2 + i) (.int .u8 ((b.getD (7 + i) 0).toNat : Int)) = hdC (hdAt b (i + 1) 0 0 0 []) := by
  have hl := piece_len b hb 7 16 (by decide)
  rw [hd_setSalt _ _ _ (by show i < (rowZ _ 16 i).length; rw [rowZ_length _ 16 i hl (by omega)]; exact hi)]
  have h := rowZ_set ((b.drop 7).take 16) 16 i hl hi
  rw [piece_getD b 7 16 i hi] at h
  show hdC ⟨_, _, ⟨(rowZ _ 16 i).set i _, _, _, _⟩, _⟩ = hdC ⟨_, _, ⟨rowZ _ 16 (i + 1), _, _, _⟩, _⟩
  rw [h]
  rfl
theorem hdAt_r (b : List (BitVec 8)) (hb : b.length = 256) (r r' : Int) : (hdC (hdAt b 16 r 0 0 [])).setIfInBounds 18 (.int .i64 r') = hdC (hdAt b 16 r' 0 0 []) :=
  hd_setR _ (rowZ_length _ 16 16 (piece_len b hb 7 16 (by decide)) (Nat.le_refl _)) r'
theorem hdAt_key (b : List (BitVec 8)) (hb : b.length = 256) (r : Int) (k m : Nat) (hk : k < 32) : (hdC (hdAt b 16 r k m [])).setIfInBounds (19 + k) (.int .u8 ((b.getD (27 + k) 0).toNat : Int)) = hdC (hdAt b 16 r (k + 1) m []) := by
  have hl := piece_len b hb 27 32 (by decide)
  rw [hd_setKey _ (rowZ_length _ 16 16 (piece_len b hb 7 16 (by decide)) (Nat.le_refl _)) _ _ (by show k < (rowZ _ 32 k).length; rw [rowZ_length _ 32 k hl (by omega)]; exact hk)]
  have h := rowZ_set ((b.drop 27).take 32) 32 k hl hk
  rw [piece_getD b 27 32 k hk] at h
  show hdC ⟨_, _, ⟨_, _, (rowZ _ 32 k).set k _, _⟩, _⟩ = hdC ⟨_, _, ⟨_, _, rowZ _ 32 (k + 1), _⟩, _⟩
  rw [h]
  rfl
theorem hdAt_ck (b : List (BitVec 8)) (hb : b.length = 256) (r : Int) (k m : Nat) (hk : k ≤ 32) (hm : m < 32) : (hdC (hdAt b 16 r k m [])).setIfInBounds (51 + m) (.int .u8 ((b.getD (59 + m) 0).toNat : Int)) = hdC (hdAt b 16 r k (m + 1) []) := by
  have hl := piece_len b hb 59 32 (by decide)
  rw [hd_setCk _ (rowZ_length _ 16 16 (piece_len b hb 7 16 (by decide)) (Nat.le_refl _)) (rowZ_length _ 32 k (piece_len b hb 27 32 (by decide)) hk) _ _ (by show m < (rowZ _ 32 m).length; rw [rowZ_length _ 32 m hl (by omega)]; exact hm)]
  have h := rowZ_set ((b.drop 59).take 32) 32 m hl hm
  rw [piece_getD b 59 32 m hm] at h
  show hdC ⟨_, _, ⟨_, _, _, (rowZ _ 32 m).set m _⟩, _⟩ = hdC ⟨_, _, ⟨_, _, _, rowZ _ 32 (m + 1)⟩, _⟩
  rw [h]
  rfl
theorem leN_one (b : List (BitVec 8)) (i n : Nat) (h : i < b.length) : leN ((b.drop i).take (n + 1)) = (b.getD i 0).toNat + 256 * leN ((b.drop (i + 1)).take n) := by
  rw [List.drop_eq_getElem_cons h, List.take_succ_cons, leN]
  simp [List.getD_eq_getElem?_getD, h]
/-- What the rounds are when k bytes are left. -/
def rdN (b : List (BitVec 8)) (k : Nat) : Nat := leN ((b.drop (23 + k)).take (4 - k))
theorem rdN_step (b : List (BitVec 8)) (hb : b.length = 256) (k : Nat) (hk : k < 4) : rdN b k = 256 * rdN b (k + 1) + (b.getD (23 + k) 0).toNat := by
  unfold rdN
  rw [show 4 - k = (4 - (k + 1)) + 1 by omega, leN_one b (23 + k) _ (by omega), Nat.add_comm, Nat.add_assoc 23 k 1]
theorem rdN_lt (b : List (BitVec 8)) (k : Nat) : rdN b k < 4294967296 := Nat.lt_of_lt_of_le (leN_lt _) (Nat.le_trans (Nat.pow_le_pow_right (by decide) (show _ ≤ 4 by rw [List.length_take]; omega)) (by decide))
theorem pgN (b : List (BitVec 8)) (hb : b.length = 256) : leN ((b.drop 5).take 2) = (b.getD 5 0).toNat + 256 * (b.getD 6 0).toNat := by
  rw [leN_one b 5 1 (by omega), leN_one b 6 0 (by omega), List.take_zero, leN]; omega
theorem hdAt_all (b : List (BitVec 8)) (hb : b.length = 256) : hdAt b 16 (rdN b 0 : Nat) 32 32 ((b.drop 92).take (min (b.getD 91 0).toNat 24)) = hdOf b := by
  unfold hdAt hdOf
  rw [rowZ_all _ 16 (piece_len b hb 7 16 (by decide)), rowZ_all _ 32 (piece_len b hb 27 32 (by decide)), rowZ_all _ 32 (piece_len b hb 59 32 (by decide))]
  rfl
theorem carl_str : (Value.string { data := #[67, 65, 82, 76] }) = .string (strOfNums (i8s carl)) := by rfl
end Sha
end Go.Proofs.Ytbnjihpafipbnaa
namespace Go.Proofs.Ytbnjihpafipbnaa
namespace Sha
open Go.RowKit Mem
/-- Bytes copied over n bytes 0: all of them, or none. -/
def padN (n : Nat) (x : List (BitVec 8)) : List (BitVec 8) := if x = [] then List.replicate n 0 else x
theorem padN_len (n : Nat) (x : List (BitVec 8)) (h : x = [] ∨ x.length = n) : (padN n x).length = n := by
  unfold padN
  split
  · simp
  · rcases h with h | h
    · rename_i h2; exact absurd h h2
    · exact h
theorem padN_full (n : Nat) (x : List (BitVec 8)) (h : x.length = n) (hn : 0 < n) : padN n x = x := by
  unfold padN
  rw [if_neg (by intro e; rw [e] at h; simp at h; omega)]
theorem rdText_len (b : List (BitVec 8)) (e p : Nat) : (rdText b e p).x.length ≤ b.length := by
  have h := (rdTake_small b e (p + 1)).2.1
  unfold rdText
  split
  · exact Nat.zero_le _
  · split
    · exact Nat.zero_le _
    · rw [List.length_take, List.length_drop]; omega
theorem rdText_b (b : List (BitVec 8)) (e p : Nat) : (rdText b e p).b.length ≤ b.length := by
  have h := (rdTake_small b e (p + 1)).2.2.1
  unfold rdText
  split
  · exact h
  · split
    · exact h
    · exact h
/-- What takeShared tells of a reader's bytes: a head, what is left, the reader's error. -/
def takeH (v : Int) (b : List (BitVec 8)) : HdV × List (BitVec 8) × Nat :=
  let r1 := rdNum b 0 2 216
  let r2 := rdTake r1.2.1 r1.2.2 16
  let r3 := rdNum r2.b r2.e 4 100
  let r4 := rdTake r3.2.1 r3.2.2 32
  let r5 := rdTake r4.b r4.e 32
  let r6 := rdText r5.b r5.e 24
  (⟨v, (r1.1 : Int), ⟨padN 16 r2.x, (r3.1 : Int), padN 32 r4.x, padN 32 r5.x⟩, r6.x⟩, r6.b, r6.e)
theorem takeH_wf (v : Int) (b : List (BitVec 8)) (h0 : -9223372036854775808 ≤ v) (h1 : v ≤ 9223372036854775807) (hb : b.length ≤ 8000) : (takeH v b).1.Wf := by
  have l1 := rdNum_le b 0 2 216
  simp only [takeH]
  obtain ⟨r1, hr1⟩ : ∃ r, r = rdNum b 0 2 216 := ⟨_, rfl⟩
  have n1 := rdNum_len b 0 2 216
  rw [← hr1] at l1 n1 ⊢
  have x2 := rdTake_x r1.2.1 r1.2.2 16
  have n2 := (rdTake_small r1.2.1 r1.2.2 16).2.2.1
  obtain ⟨r2, hr2⟩ : ∃ r, r = rdTake r1.2.1 r1.2.2 16 := ⟨_, rfl⟩
  rw [← hr2] at x2 n2 ⊢
  have l3 := rdNum_le r2.b r2.e 4 100
  have n3 := rdNum_len r2.b r2.e 4 100
  obtain ⟨r3, hr3⟩ : ∃ r, r = rdNum r2.b r2.e 4 100 := ⟨_, rfl⟩
  rw [← hr3] at l3 n3 ⊢
  have x4 := rdTake_x r3.2.1 r3.2.2 32
  have n4 := (rdTake_small r3.2.1 r3.2.2 32).2.2.1
  obtain ⟨r4, hr4⟩ : ∃ r, r = rdTake r3.2.1 r3.2.2 32 := ⟨_, rfl⟩
  rw [← hr4] at x4 n4 ⊢
  have x5 := rdTake_x r4.b r4.e 32
  have n5 := (rdTake_small r4.b r4.e 32).2.2.1
  obtain ⟨r5, hr5⟩ : ∃ r, r = rdTake r4.b r4.e 32 := ⟨_, rfl⟩
  rw [← hr5] at x5 n5 ⊢
  have n6 := rdText_len r5.b r5.e 24
  exact ⟨h0, h1, by show _ ≤ ((r1.1 : Nat) : Int); omega, by show ((r1.1 : Nat) : Int) ≤ _; omega, ⟨padN_len 16 _ x2, by show _ ≤ ((r3.1 : Nat) : Int); omega, by show ((r3.1 : Nat) : Int) ≤ _; omega, padN_len 32 _ x4, padN_len 32 _ x5⟩, by show (rdText r5.b r5.e 24).x.length ≤ _; omega⟩
theorem rdNum_app (x y : List (BitVec 8)) (k m most : Nat) (hx : x.length = k) (hv : leN x = m) (hm : m ≤ most) : rdNum (x ++ y) 0 k most = (m, y, 0) := by
  rw [rdNum_ok _ _ _ (by rw [List.length_append]; omega), take_mid x y k hx, hv, if_neg (by omega)]
  rw [← hx, List.drop_left]
theorem rdTake_app (x y : List (BitVec 8)) (k : Nat) (hx : x.length = k) : rdTake (x ++ y) 0 k = ⟨x, y, 0⟩ := by
  rw [rdTake_ok _ _ (by rw [List.length_append]; omega), take_mid x y k hx]
  rw [← hx, List.drop_left]
theorem allZ_rep (n : Nat) : allZ (List.replicate n 0) = true := by
  unfold allZ
  rw [List.all_eq_true]
  intro x hx
  rw [(List.mem_replicate.1 hx).2]; rfl
theorem rdText_app (s y : List (BitVec 8)) (p : Nat) (hs : s.length ≤ p) (hp : p ≤ 255) : rdText (textB s p ++ y) 0 p = ⟨s, y, 0⟩ := by
  have hl := textB_length s p hs
  have ht := rdTake_app (textB s p) y (p + 1) hl
  have h0 : ((textB s p).getD 0 0).toNat = s.length := by
    show (BitVec.ofNat 8 s.length).toNat = s.length
    rw [BitVec.toNat_ofNat]; omega
  have h1 : (textB s p).drop (1 + s.length) = List.replicate (p - s.length) 0 := by
    show (BitVec.ofNat 8 s.length :: (s ++ List.replicate (p - s.length) 0)).drop (1 + s.length) = _
    rw [Nat.add_comm, List.drop_succ_cons, List.drop_left]
  have h2 : ((textB s p).drop 1).take s.length = s := by
    show (s ++ List.replicate (p - s.length) 0).take s.length = s
    rw [List.take_left]
  unfold rdText
  simp only [ht]
  rw [if_neg (by simp), h0, h1, allZ_rep, if_neg (by simp; omega), h2]
/-- What is laid is taken. -/
theorem takeH_lay (g : HdV) (w : g.Wf) (hm : mayH g = true) : (takeH g.ver ((layH g).drop 5)).1 = g := by
  obtain ⟨v0, v1, p0, p1, r0, r1, hl⟩ := (mayH_iff g).1 hm
  obtain ⟨T, hT⟩ : ∃ T, layH g = hdB1 g ++ T := by
    unfold layH hdB2
    split
    · exact ⟨_, List.append_assoc _ _ _⟩
    · exact ⟨_, rfl⟩
  have hb : (layH g).drop 5 = nbytes g.pages.toNat 2 ++ (g.wr.salt ++ (nbytes g.wr.r.toNat 4 ++ (g.wr.key ++ (g.wr.ck ++ (textB g.lab 24 ++ T))))) := by
    rw [hT]
    show (carl ++ (nbytes g.ver.toNat 1 ++ _) ++ T).drop 5 = _
    rw [← List.append_assoc carl, List.append_assoc, show (5 : Nat) = (carl ++ nbytes g.ver.toNat 1).length by simp [carl, nbytes_length], List.drop_left]
    simp only [List.append_assoc]
  have e1 : leN (nbytes g.pages.toNat 2) = g.pages.toNat := by rw [leN_nbytes, Nat.mod_eq_of_lt (by omega)]
  have e3 : leN (nbytes g.wr.r.toNat 4) = g.wr.r.toNat := by rw [leN_nbytes, Nat.mod_eq_of_lt (by omega)]
  unfold takeH
  rw [hb]
  simp only [rdNum_app _ _ 2 _ 216 (nbytes_length _ _) e1 (by omega), rdTake_app _ _ 16 w.wr.salt, rdNum_app _ _ 4 _ 100 (nbytes_length _ _) e3 (by omega), rdTake_app _ _ 32 w.wr.key, rdTake_app _ _ 32 w.wr.ck, rdText_app _ _ 24 hl (by decide), padN_full 16 _ w.wr.salt (by decide), padN_full 32 _ w.wr.key (by decide), padN_full 32 _ w.wr.ck (by decide)]
  have f1 : ((g.pages.toNat : Nat) : Int) = g.pages := by omega
  have f2 : ((g.wr.r.toNat : Nat) : Int) = g.wr.r := by omega
  rw [f1, f2]
/-- Whether what was taken is a head with just these bytes, is what the document asks. -/
theorem parse_take (b : List (BitVec 8)) (hl : b.length = 256) (h4 : b.take 4 = carl) (h12 : ¬ (b.getD 4 0 ≠ 1 ∧ b.getD 4 0 ≠ 2)) :
    parseH b = if mayH (takeH ((b.getD 4 0).toNat : Int) (b.drop 5)).1 = true ∧ layH (takeH ((b.getD 4 0).toNat : Int) (b.drop 5)).1 = b then ((takeH ((b.getD 4 0).toNat : Int) (b.drop 5)).1, 0) else (zhd, 3) := by
  have hpar : parseH b = if mayH (hdOf b) = false then (zhd, 3) else if layH (hdOf b) ≠ b then (zhd, 3) else (hdOf b, 0) := by
    unfold parseH; rw [if_neg (fun h => h hl), if_neg (fun h => h h4), if_neg h12]
  have h8 := (b.getD 4 0).isLt
  have wf := takeH_wf ((b.getD 4 0).toNat : Int) (b.drop 5) (by omega) (by omega) (by rw [List.length_drop]; omega)
  obtain ⟨H, hH⟩ : ∃ H, H = (takeH ((b.getD 4 0).toNat : Int) (b.drop 5)).1 := ⟨_, rfl⟩
  have hH2 := hH
  rw [← hH] at wf ⊢
  by_cases hg : mayH H = true ∧ layH H = b
  · rw [if_pos hg]
    have e := (hdOf_lay H wf hg.1).1
    rw [hg.2] at e
    rw [hpar, e, if_neg (by rw [hg.1]; decide), if_neg (fun h => h hg.2)]
  · rw [if_neg hg, hpar]
    by_cases h1 : mayH (hdOf b) = false
    · rw [if_pos h1]
    · rw [if_neg h1]
      by_cases h2 : layH (hdOf b) ≠ b
      · rw [if_pos h2]
      · exfalso
        have h1' : mayH (hdOf b) = true := by simpa using h1
        have h2' : layH (hdOf b) = b := Classical.not_not.1 h2
        have e := takeH_lay (hdOf b) (hdOf_wf b hl) h1'
        rw [h2'] at e
        have e2 : H = hdOf b := by rw [hH2]; exact e
        exact hg (by rw [e2]; exact ⟨h1', h2'⟩)
theorem take_head (b : List (BitVec 8)) (hl : b.length = 256) : rdTake b 0 4 = ⟨b.take 4, b.drop 4, 0⟩ ∧ rdNum (b.drop 4) 0 1 255 = ((b.getD 4 0).toNat, b.drop 5, 0) := by
  have h8 := (b.getD 4 0).isLt
  have e1 : leN ((b.drop 4).take 1) = (b.getD 4 0).toNat := by rw [leN_one b 4 0 (by omega), List.take_zero, leN]; omega
  refine ⟨rdTake_ok b 4 (by omega), ?_⟩
  rw [rdNum_ok _ _ _ (by rw [List.length_drop]; omega), e1, if_neg (by omega), List.drop_drop]
theorem hd_setver' (h : HdV) (v : Int) : (hdC h).setIfInBounds 0 (.int .i64 v) = hdC { h with ver := v } := hd_setver h v
theorem hd_setpages (h : HdV) (v : Int) : (hdC h).setIfInBounds 1 (.int .i64 v) = hdC { h with pages := v } := by simp [hdC, hdL]
theorem hd_copyS (v p : Int) (x : List (BitVec 8)) : (if x = [] then hdC ⟨v, p, zwr, []⟩ else ((hdC ⟨v, p, zwr, []⟩).toList.take 2 ++ u8s x ++ (hdC ⟨v, p, zwr, []⟩).toList.drop (2 + 16)).toArray) = hdC ⟨v, p, { zwr with salt := padN 16 x }, []⟩ := by
  unfold padN
  split
  · rfl
  · unfold hdC
    rw [hdL_flat, hdL_flat]
    congr 1
theorem hd_copyK (v p : Int) (s : List (BitVec 8)) (hs : s.length = 16) (r : Int) (x : List (BitVec 8)) : (if x = [] then hdC ⟨v, p, ⟨s, r, z32, z32⟩, []⟩ else ((hdC ⟨v, p, ⟨s, r, z32, z32⟩, []⟩).toList.take 19 ++ u8s x ++ (hdC ⟨v, p, ⟨s, r, z32, z32⟩, []⟩).toList.drop (19 + 32)).toArray) = hdC ⟨v, p, ⟨s, r, padN 32 x, z32⟩, []⟩ := by
  unfold padN
  split
  · rfl
  · have e : (u8s s).length = 16 := by rw [u8s_length]; exact hs
    unfold hdC
    rw [hdL_flat, hdL_flat]
    congr 1
    simp only
    rw [show ∀ (p q r s : List Value), p ++ (q ++ (r ++ s)) = (p ++ (q ++ r)) ++ s by intros; simp, take_mid _ _ 19 (by simp [e]), drop_mid _ _ _ 19 32 (by simp [e]) (by simp [u8s_length, z32])]
    simp
theorem hd_copyC (v p : Int) (s : List (BitVec 8)) (hs : s.length = 16) (r : Int) (k : List (BitVec 8)) (hk : k.length = 32) (x : List (BitVec 8)) : (if x = [] then hdC ⟨v, p, ⟨s, r, k, z32⟩, []⟩ else ((hdC ⟨v, p, ⟨s, r, k, z32⟩, []⟩).toList.take 51 ++ u8s x ++ (hdC ⟨v, p, ⟨s, r, k, z32⟩, []⟩).toList.drop (51 + 32)).toArray) = hdC ⟨v, p, ⟨s, r, k, padN 32 x⟩, []⟩ := by
  unfold padN
  split
  · rfl
  · have e : (u8s s).length = 16 := by rw [u8s_length]; exact hs
    have e2 : (u8s k).length = 32 := by rw [u8s_length]; exact hk
    unfold hdC
    rw [hdL_flat, hdL_flat]
    congr 1
    simp only
    rw [show ∀ (p q r t s : List Value), p ++ (q ++ (r ++ (t ++ s))) = (p ++ (q ++ (r ++ t))) ++ s by intros; simp, take_mid _ _ 51 (by simp [e, e2]), drop_mid _ _ _ 51 32 (by simp [e, e2]) (by simp [u8s_length, z32])]
    simp
end Sha
end Go.Proofs.Ytbnjihpafipbnaa
namespace Go.Proofs.Ytbnjihpafipbnaa
namespace Sha
open Go.RowKit Mem
theorem hd_strsize (h : HdV) : (strOfNums (i8s h.lab)).size = h.lab.length := by rw [strOfNums_size]; simp [i8s]
set_option maxHeartbeats 1000000 in
theorem hwithin_any (z a b : Int) (w : World) : Calls Try.prog 27 #[.int .i64 z, .int .i64 a, .int .i64 b] w fun e w' => e = .returned (.bool (decide (a ≤ z ∧ z ≤ b))) ∧ w = w' := by
  by_cases h1 : a ≤ z
  · by_cases h2 : z ≤ b
    · have hd : decide (a ≤ z ∧ z ≤ b) = true := decide_eq_true ⟨h1, h2⟩
      rw [hd]
      clear hd
      go_enter Try.func27, Try.ntmps27
      go_wp2_with fail
      go_ret
      exact ⟨rfl, rfl⟩
    · have hd : decide (a ≤ z ∧ z ≤ b) = false := decide_eq_false fun h => h2 h.2
      rw [hd]
      clear hd
      go_enter Try.func27, Try.ntmps27
      go_wp2_with fail
      go_ret
      exact ⟨rfl, rfl⟩
  · have hd : decide (a ≤ z ∧ z ≤ b) = false := decide_eq_false fun h => h1 h.1
    rw [hd]
    clear hd
    go_enter Try.func27, Try.ntmps27
    go_wp2_with fail
    go_ret
    exact ⟨rfl, rfl⟩
theorem hversion_any (z : Int) (w : World) : Calls Try.prog 26 #[.int .i64 z] w fun e w' => e = .returned (.bool (decide (1 ≤ z ∧ z ≤ 2))) ∧ w = w' := by
  have IN := Lib.hid (fun wx => hwithin_any z 1 2 wx)
  obtain ⟨b, hb⟩ : ∃ b, b = decide (1 ≤ z ∧ z ≤ 2) := ⟨_, rfl⟩
  rw [← hb] at IN ⊢
  clear hb
  go_enter Try.func26, Try.ntmps26
  go_wp2_with fail
  refine (IN.out _).mono ?_
  rintro e w' ⟨rfl, rfl⟩
  go_wp2_with fail
  go_ret
  exact ⟨rfl, rfl⟩
set_option maxRecDepth 100000 in
set_option maxHeartbeats 4000000 in
theorem rmay11_any (h : HdV) (hw : h.Wf) (w : World) : Calls Try.prog 15 #[.agg (hdC h)] w fun e w' => e = .returned (.bool (mayH h)) ∧ Below w.heap.size w w' := by
  have hA := at_new w (hdC h) 27
  have hb : Below w.heap.size w (w.alloc (.cells (hdC h) 27)) := (Below.refl _ _).alloc (Nat.le_refl _) _
  have hss := hd_strsize h
  have hmi := mayH_iff h
  have c0 : (w.alloc (.cells (hdC h) 27)).cell? ⟨w.heap.size, 0, none⟩ = some (.int .i64 h.ver) := (hA.cell 0).trans (hd_ver h)
  have c1 : (w.alloc (.cells (hdC h) 27)).cell? ⟨w.heap.size, 1, none⟩ = some (.int .i64 h.pages) := (hA.cell 1).trans (hd_pages h)
  have c18 : (w.alloc (.cells (hdC h) 27)).cell? ⟨w.heap.size, 18, none⟩ = some (.int .i64 h.wr.r) := (hA.cell 18).trans (hd_r hw)
  have c83 : (w.alloc (.cells (hdC h) 27)).cell? ⟨w.heap.size, 83, none⟩ = some (.string (strOfNums (i8s h.lab))) := (hA.cell 83).trans (hd_lab hw)
  have HB := Lib.hid hb
  obtain ⟨w1, hw1⟩ : ∃ w1, w1 = w.alloc (.cells (hdC h) 27) := ⟨_, rfl⟩
  obtain ⟨S, hS⟩ : ∃ S, S = strOfNums (i8s h.lab) := ⟨_, rfl⟩
  obtain ⟨v, hv⟩ : ∃ v, v = h.ver := ⟨_, rfl⟩
  obtain ⟨p, hp⟩ : ∃ p, p = h.pages := ⟨_, rfl⟩
  obtain ⟨r, hr⟩ : ∃ r, r = h.wr.r := ⟨_, rfl⟩
  obtain ⟨n, hn⟩ : ∃ n, n = h.lab.length := ⟨_, rfl⟩
  rw [← hv, ← hp, ← hr, ← hn] at hmi
  rw [← hS, ← hn] at hss
  rw [← hw1, ← hv] at c0
  rw [← hw1, ← hp] at c1
  rw [← hw1, ← hr] at c18
  rw [← hw1, ← hS] at c83
  rw [← hw1] at HB
  obtain ⟨m, hm⟩ : ∃ m, m = mayH h := ⟨_, rfl⟩
  rw [← hm] at hmi ⊢
  clear hA hb hw hS hv hp hr hn hm
  by_cases h0 : v < 1
  · have hq : m = false := by cases hm : m; rfl; have h7 := hmi.1 hm; omega
    subst hq
    clear hss hmi
    go_enter Try.func15, Try.ntmps15
    go_upto_region 1 with fail
    rw [← hw1]
    clear hw1
    go_wp2_with fail
    go_ret
    exact ⟨rfl, HB.out⟩
  · by_cases h1 : 2 < v
    · have hq : m = false := by cases hm : m; rfl; have h7 := hmi.1 hm; omega
      subst hq
      clear hss hmi
      go_enter Try.func15, Try.ntmps15
      go_upto_region 1 with fail
      rw [← hw1]
      clear hw1
      go_wp2_with fail
      go_ret
      exact ⟨rfl, HB.out⟩
    · by_cases h2 : p < 1
      · have hq : m = false := by cases hm : m; rfl; have h7 := hmi.1 hm; omega
        subst hq
        clear hss hmi
        go_enter Try.func15, Try.ntmps15
        go_upto_region 1 with fail
        rw [← hw1]
        clear hw1
        go_wp2_with fail
        go_ret
        exact ⟨rfl, HB.out⟩
      · by_cases h3 : 216 < p
        · have hq : m = false := by cases hm : m; rfl; have h7 := hmi.1 hm; omega
          subst hq
          clear hss hmi
          go_enter Try.func15, Try.ntmps15
          go_upto_region 1 with fail
          rw [← hw1]
          clear hw1
          go_wp2_with fail
          go_ret
          exact ⟨rfl, HB.out⟩
        · by_cases h4 : 1 ≤ r
          · by_cases h5 : r ≤ 100
            · by_cases h6 : (n : Int) ≤ 24
              · have hq : m = true := hmi.2 ⟨by omega, by omega, by omega, by omega, by omega, by omega, by omega⟩
                subst hq
                have gl : (S.size : Int) ≤ 24 := by omega
                clear hss hmi h6
                go_enter Try.func15, Try.ntmps15
                go_upto_region 1 with fail
                rw [← hw1]
                clear hw1
                go_wp2_with fail
                go_ret
                exact ⟨rfl, HB.out⟩
              · have hq : m = false := by cases hm : m; rfl; have h7 := hmi.1 hm; omega
                subst hq
                have gl : ¬ (S.size : Int) ≤ 24 := by omega
                clear hss hmi h6
                go_enter Try.func15, Try.ntmps15
                go_upto_region 1 with fail
                rw [← hw1]
                clear hw1
                go_wp2_with fail
                go_ret
                exact ⟨rfl, HB.out⟩
            · have hq : m = false := by cases hm : m; rfl; have h7 := hmi.1 hm; omega
              subst hq
              clear hss hmi
              go_enter Try.func15, Try.ntmps15
              go_upto_region 1 with fail
              rw [← hw1]
              clear hw1
              go_wp2_with fail
              go_ret
              exact ⟨rfl, HB.out⟩
          · have hq : m = false := by cases hm : m; rfl; have h7 := hmi.1 hm; omega
            subst hq
            clear hss hmi
            go_enter Try.func15, Try.ntmps15
            go_upto_region 1 with fail
            rw [← hw1]
            clear hw1
            go_wp2_with fail
            go_ret
            exact ⟨rfl, HB.out⟩
set_option maxRecDepth 100000 in
set_option maxHeartbeats 4000000 in
theorem pmay11_any (h : HdV) (hw : h.Wf) (w : World) : Calls Try.prog 14 #[.agg (hdC h)] w fun e w' => e = .returned (.bool (mayH h)) ∧ Below w.heap.size w w' := by
  have hA := at_new w (hdC h) 35
  have hb : Below w.heap.size w (w.alloc (.cells (hdC h) 35)) := (Below.refl _ _).alloc (Nat.le_refl _) _
  have hss := hd_strsize h
  have hmi := mayH_iff h
  have c0 : (w.alloc (.cells (hdC h) 35)).cell? ⟨w.heap.size, 0, none⟩ = some (.int .i64 h.ver) := (hA.cell 0).trans (hd_ver h)
  have c1 : (w.alloc (.cells (hdC h) 35)).cell? ⟨w.heap.size, 1, none⟩ = some (.int .i64 h.pages) := (hA.cell 1).trans (hd_pages h)
  have c18 : (w.alloc (.cells (hdC h) 35)).cell? ⟨w.heap.size, 18, none⟩ = some (.int .i64 h.wr.r) := (hA.cell 18).trans (hd_r hw)
  have c83 : (w.alloc (.cells (hdC h) 35)).cell? ⟨w.heap.size, 83, none⟩ = some (.string (strOfNums (i8s h.lab))) := (hA.cell 83).trans (hd_lab hw)
  have HB := Lib.hid hb
  obtain ⟨w1, hw1⟩ : ∃ w1, w1 = w.alloc (.cells (hdC h) 35) := ⟨_, rfl⟩
  obtain ⟨S, hS⟩ : ∃ S, S = strOfNums (i8s h.lab) := ⟨_, rfl⟩
  obtain ⟨v, hv⟩ : ∃ v, v = h.ver := ⟨_, rfl⟩
  obtain ⟨p, hp⟩ : ∃ p, p = h.pages := ⟨_, rfl⟩
  obtain ⟨r, hr⟩ : ∃ r, r = h.wr.r := ⟨_, rfl⟩
  obtain ⟨n, hn⟩ : ∃ n, n = h.lab.length := ⟨_, rfl⟩
  rw [← hv, ← hp, ← hr, ← hn] at hmi
  rw [← hS, ← hn] at hss
  rw [← hw1, ← hv] at c0
  rw [← hw1, ← hp] at c1
  rw [← hw1, ← hr] at c18
  rw [← hw1, ← hS] at c83
  rw [← hw1] at HB
  obtain ⟨m, hm⟩ : ∃ m, m = mayH h := ⟨_, rfl⟩
  rw [← hm] at hmi ⊢
  clear hA hb hw hS hv hp hr hn hm
  have IN := Lib.hid (fun z x y wx => hwithin_any z x y wx); have VE := Lib.hid (fun z wx => hversion_any z wx)
  by_cases h0 : 1 ≤ v ∧ v ≤ 2
  · by_cases h1 : 1 ≤ p ∧ p ≤ 216
    · by_cases h2 : 1 ≤ r ∧ r ≤ 100
      · by_cases h3 : (n : Int) ≤ 24
        · have hq : m = true := hmi.2 ⟨by omega, by omega, by omega, by omega, by omega, by omega, by omega⟩
          subst hq
          have gl : (S.size : Int) ≤ 24 := by omega
          have D0 := Lib.hid (decide_eq_true h0)
          have D1 := Lib.hid (decide_eq_true h1)
          have D2 := Lib.hid (decide_eq_true h2)
          have GL := Lib.hid (decide_eq_true gl)
          clear hss hmi h0 h1 h2 h3
          go_enter Try.func14, Try.ntmps14
          go_upto_region 1 with fail
          rw [← hw1]
          clear hw1
          go_wp2_with fail
          refine (VE.out _ _).mono ?_
          rintro e w' ⟨rfl, rfl⟩
          rw [D0.out]
          go_wp2_with fail
          refine (IN.out _ _ _ _).mono ?_
          rintro e w' ⟨rfl, rfl⟩
          rw [D1.out]
          go_wp2_with fail
          refine (IN.out _ _ _ _).mono ?_
          rintro e w' ⟨rfl, rfl⟩
          rw [D2.out]
          go_wp2_with fail
          go_ret
          exact ⟨by first | rfl | (rw [← GL.out]; rfl), HB.out⟩
        · have hq : m = false := by cases hm : m; rfl; have h7 := hmi.1 hm; omega
          subst hq
          have gl : ¬ (S.size : Int) ≤ 24 := by omega
          have D0 := Lib.hid (decide_eq_true h0)
          have D1 := Lib.hid (decide_eq_true h1)
          have D2 := Lib.hid (decide_eq_true h2)
          have GL := Lib.hid (decide_eq_false gl)
          clear hss hmi h0 h1 h2 h3
          go_enter Try.func14, Try.ntmps14
          go_upto_region 1 with fail
          rw [← hw1]
          clear hw1
          go_wp2_with fail
          refine (VE.out _ _).mono ?_
          rintro e w' ⟨rfl, rfl⟩
          rw [D0.out]
          go_wp2_with fail
          refine (IN.out _ _ _ _).mono ?_
          rintro e w' ⟨rfl, rfl⟩
          rw [D1.out]
          go_wp2_with fail
          refine (IN.out _ _ _ _).mono ?_
          rintro e w' ⟨rfl, rfl⟩
          rw [D2.out]
          go_wp2_with fail
          go_ret
          exact ⟨by first | rfl | (rw [← GL.out]; rfl), HB.out⟩
      · have hq : m = false := by cases hm : m; rfl; have h7 := hmi.1 hm; omega
        subst hq
        have D0 := Lib.hid (decide_eq_true h0)
        have D1 := Lib.hid (decide_eq_true h1)
        have D2 := Lib.hid (decide_eq_false h2)
        clear hss hmi h0 h1 h2
        go_enter Try.func14, Try.ntmps14
        go_upto_region 1 with fail
        rw [← hw1]
        clear hw1
        go_wp2_with fail
        refine (VE.out _ _).mono ?_
        rintro e w' ⟨rfl, rfl⟩
        rw [D0.out]
        go_wp2_with fail
        refine (IN.out _ _ _ _).mono ?_
        rintro e w' ⟨rfl, rfl⟩
        rw [D1.out]
        go_wp2_with fail
        refine (IN.out _ _ _ _).mono ?_
        rintro e w' ⟨rfl, rfl⟩
        rw [D2.out]
        go_wp2_with fail
        go_ret
        exact ⟨rfl, HB.out⟩
    · have hq : m = false := by cases hm : m; rfl; have h7 := hmi.1 hm; omega
      subst hq
      have D0 := Lib.hid (decide_eq_true h0)
      have D1 := Lib.hid (decide_eq_false h1)
      clear hss hmi h0 h1
      go_enter Try.func14, Try.ntmps14
      go_upto_region 1 with fail
      rw [← hw1]
      clear hw1
      go_wp2_with fail
      refine (VE.out _ _).mono ?_
      rintro e w' ⟨rfl, rfl⟩
      rw [D0.out]
      go_wp2_with fail
      refine (IN.out _ _ _ _).mono ?_
      rintro e w' ⟨rfl, rfl⟩
      rw [D1.out]
      go_wp2_with fail
      go_ret
      exact ⟨rfl, HB.out⟩
  · have hq : m = false := by cases hm : m; rfl; have h7 := hmi.1 hm; omega
    subst hq
    have D0 := Lib.hid (decide_eq_false h0)
    clear hss hmi h0
    go_enter Try.func14, Try.ntmps14
    go_upto_region 1 with fail
    rw [← hw1]
    clear hw1
    go_wp2_with fail
    refine (VE.out _ _).mono ?_
    rintro e w' ⟨rfl, rfl⟩
    rw [D0.out]
    go_wp2_with fail
    go_ret
    exact ⟨rfl, HB.out⟩
theorem o_uaddw {P : Program} (t t2 : TypeId) (x y : Operand) (a b : Nat) (w : World) : (do eqGuard .add t x y (.int .u32 (a : Int)) (.int .u32 (b : Int)); binOp .add t2 (.int .u32 (a : Int)) (.int .u32 (b : Int)) : Sem Value).run P w = .ok (.int .u32 (((a + b) % 4294967296 : Nat) : Int)) w := by
  have h := IntKind.wrap_u32 ((a : Int) + (b : Int))
  go_simp
  try (first | (rw [h]; omega) | omega)
theorem conv_bU11 (x : BitVec 8) (w : World) : (convert 5 47 (.int .u8 (B8 x))).run Try.prog w = .ok (.int .u32 ((x.toNat : Nat) : Int)) w := by
  have hx := x.isLt
  have h2 : IntKind.u32.wrap (x.toNat : Int) = (x.toNat : Int) := by simp [IntKind.wrap, IntKind.bits, IntKind.signed]; omega
  unfold B8
  go_simp
set_option maxRecDepth 100000 in
set_option maxHeartbeats 2000000 in
theorem rsum11_any (l : List (BitVec 8)) (v : Value) (w : World) (bl : l.length ≤ 9223372036854775807) (hv : Sl w v l) :
    Calls Try.prog 18 #[v] w fun e w' => e = .returned (.int .u32 ((sumN l : Nat) : Int)) ∧ w = w' := by
  have hv0 := hv
  obtain ⟨a0, cap, rfl, _, _⟩ := hv
  obtain ⟨m, hm⟩ : ∃ m, m = l.length := ⟨_, rfl⟩
  rw [← hm] at bl
  have HV := Lib.hid hv0; have HM := Lib.hid hm
  rw [← hm]
  clear hv0 hm
  go_enter Try.func18, Try.ntmps18
  go_wp2_with fail
  go_loop [3, 4] (fun s i => ∃ j : Nat, j ≤ m ∧ i = .int .i64 j ∧ s = .int .u32 ((sumN (l.take j) : Nat) : Int)) (fun s i => m - (intOf i).toNat)
  case atStart => exact ⟨0, by omega, rfl, by rw [List.take_zero]; rfl⟩
  case round =>
    obtain ⟨j, hj, rfl, rfl⟩ := hrel
    by_cases hlt : j < m
    · obtain ⟨b1, o1, rfl, cx⟩ := sl_at (i := j) HV.out (by rw [← HM.out]; exact hlt)
      have hlt' : (j : Int) < (m : Int) := by omega
      have hst := sumN_take l j (by rw [← HM.out]; exact hlt)
      obtain ⟨x, hx⟩ : ∃ x, x = l.getD j 0 := ⟨_, rfl⟩
      rw [← hx] at cx hst
      obtain ⟨q, hq⟩ : ∃ q, q = sumN (l.take j) := ⟨_, rfl⟩
      rw [← hq] at hst ⊢
      have CV := Lib.hid (fun wx => conv_bU11 x wx); have ADD := Lib.hid (fun (P : Program) (t t2 : TypeId) (a b : Operand) (wx : World) => o_uaddw (P := P) t t2 a b q x.toNat wx); have ST := Lib.hid hst
      clear hst hq hx
      go_wp2_with (first
        | (refine wpList_conv (by rfl) _ _ _ _ (.int .u32 ((x.toNat : Nat) : Int)) (by rfl) (by rfl) CV.out ?_)
        | (refine wpList_bin (by rfl) .add _ _ _ _ _ _ (.int .u32 (((q + x.toNat) % 4294967296 : Nat) : Int)) (by rfl) (by rfl) (by rfl) (fun wx => ADD.out _ _ _ _ _ wx) ?_))
      go_round
      case rel => exact ⟨j + 1, by omega, by go_num, congrArg (Value.int .u32) (by rw [ST.out]; omega)⟩
      case measure => simp [intOf]; omega
    · have hjm : j = m := by omega
      have hge : ¬ (j : Int) < (m : Int) := by omega
      have hall : Hid (sumN (l.take j) = sumN l) := by
        show sumN (l.take j) = sumN l
        rw [hjm, HM.out, List.take_length]
      obtain ⟨q, hq⟩ : ∃ q, q = sumN (l.take j) := ⟨_, rfl⟩
      rw [← hq] at hall ⊢
      clear hjm hlt hj hq
      go_wp2
      go_ret
      exact ⟨by rw [hall.out]; rfl, rfl⟩
set_option maxRecDepth 100000 in
set_option maxHeartbeats 2000000 in
theorem psum11_any (l : List (BitVec 8)) (v : Value) (w : World) (bl : l.length ≤ 9223372036854775807) (hv : Sl w v l) :
    Calls Try.prog 17 #[v] w fun e w' => e = .returned (.int .u32 ((sumN l : Nat) : Int)) ∧ w = w' := by
  have hv0 := hv
  obtain ⟨a0, cap, rfl, _, _⟩ := hv
  obtain ⟨m, hm⟩ : ∃ m, m = l.length := ⟨_, rfl⟩
  rw [← hm] at bl
  have HV := Lib.hid hv0; have HM := Lib.hid hm
  rw [← hm]
  clear hv0 hm
  go_enter Try.func17, Try.ntmps17
  go_wp2_with fail
  go_loop [3, 8] (fun s i => ∃ j : Nat, j ≤ m ∧ i = .int .i64 j ∧ s = .int .u32 ((sumN (l.take j) : Nat) : Int)) (fun s i => m - (intOf i).toNat)
  case atStart => exact ⟨0, by omega, rfl, by rw [List.take_zero]; rfl⟩
  case round =>
    obtain ⟨j, hj, rfl, rfl⟩ := hrel
    by_cases hlt : j < m
    · obtain ⟨b1, o1, rfl, cx⟩ := sl_at (i := j) HV.out (by rw [← HM.out]; exact hlt)
      have hlt' : (j : Int) < (m : Int) := by omega
      have hst := sumN_take l j (by rw [← HM.out]; exact hlt)
      obtain ⟨x, hx⟩ : ∃ x, x = l.getD j 0 := ⟨_, rfl⟩
      rw [← hx] at cx hst
      obtain ⟨q, hq⟩ : ∃ q, q = sumN (l.take j) := ⟨_, rfl⟩
      rw [← hq] at hst ⊢
      have CV := Lib.hid (fun wx => conv_bU11 x wx); have ADD := Lib.hid (fun (P : Program) (t t2 : TypeId) (a b : Operand) (wx : World) => o_uaddw (P := P) t t2 a b q x.toNat wx); have ST := Lib.hid hst
      clear hst hq hx
      go_wp2_with (first
        | (refine wpList_conv (by rfl) _ _ _ _ (.int .u32 ((x.toNat : Nat) : Int)) (by rfl) (by rfl) CV.out ?_)
        | (refine wpList_bin (by rfl) .add _ _ _ _ _ _ (.int .u32 (((q + x.toNat) % 4294967296 : Nat) : Int)) (by rfl) (by rfl) (by rfl) (fun wx => ADD.out _ _ _ _ _ wx) ?_))
      go_round
      case rel => exact ⟨j + 1, by omega, by go_num, congrArg (Value.int .u32) (by rw [ST.out]; omega)⟩
      case measure => simp [intOf]; omega
    · have hjm : j = m := by omega
      have hge : ¬ (j : Int) < (m : Int) := by omega
      have hall : Hid (sumN (l.take j) = sumN l) := by
        show sumN (l.take j) = sumN l
        rw [hjm, HM.out, List.take_length]
      obtain ⟨q, hq⟩ : ∃ q, q = sumN (l.take j) := ⟨_, rfl⟩
      rw [← hq] at hall ⊢
      clear hjm hlt hj hq
      go_wp2
      go_ret
      exact ⟨by rw [hall.out]; rfl, rfl⟩
end Sha
end Go.Proofs.Ytbnjihpafipbnaa
namespace Go.Proofs.Ytbnjihpafipbnaa
namespace Sha
open Go.RowKit Mem
theorem hd_eta2 (h : HdV) : (hdC h).setIfInBounds 0 (.int .i64 2) = hdC { h with ver := 2 } := hd_setver h 2
theorem infoI64 : (Try.prog.info? 3).map (·.size) = some 1 := by kernel_rfl
set_option maxRecDepth 100000 in
set_option maxHeartbeats 4000000 in
theorem rup11_any (h : HdV) (hw : h.Wf) (w : World) : Calls Try.prog 12 #[.agg (hdC h)] w fun e w' => e = .returned (.tuple #[.agg (hdC (upH h).1), .int .i64 ((upH h).2 : Int)]) ∧ Below w.heap.size w w' := by
  have hmay := fun wx => rmay11_any h hw wx
  obtain ⟨Z, hZ⟩ : ∃ Z, Z = hdC zhd := ⟨_, rfl⟩
  have zs : Z.size = 84 := by rw [hZ]; exact hdC_size zhd_wf
  have zo : Z.all (·.oneCell') = true := by rw [hZ]; exact hdC_one _
  have hx : ∀ w, (zeroValue 27).run Try.prog w = .ok (.agg Z) w := by rw [hZ]; exact zeroHdR
  have bn : ∀ w, (Instr.build 27 #[]).run Try.prog w = .ok (.agg Z) w := by rw [hZ]; exact buildHR0
  have hu : upH h = if mayH h = false then (zhd, 1) else if h.ver = 2 then (zhd, 21) else ({ h with ver := 2 }, 0) := rfl
  have hv := hd_ver h
  obtain ⟨M, hM⟩ : ∃ M, M = hdC h := ⟨_, rfl⟩
  have ms : M.size = 84 := by rw [hM]; exact hdC_size hw
  obtain ⟨v, hvv⟩ : ∃ v, v = h.ver := ⟨_, rfl⟩
  rw [← hM, ← hvv] at hv
  rw [← hM] at hmay ⊢
  have a1 := (at_new w M 27).alloc (.cells Z 27)
  have a2 := at_new (w.alloc (.cells M 27)) Z 27
  rw [World.size_alloc] at a2
  have b2 : Below w.heap.size w ((w.alloc (.cells M 27)).alloc (.cells Z 27)) := ((Below.refl _ w).alloc (Nat.le_refl _) _).alloc (by simp) _
  have c0 := (a1.cell 0).trans hv
  have hnew : M.setIfInBounds 0 (.int .i64 2) = hdC { h with ver := 2 } := by rw [hM]; exact hd_eta2 h
  obtain ⟨m, hm⟩ : ∃ m, m = mayH h := ⟨_, rfl⟩
  rw [← hm] at hmay hu
  rw [← hvv] at hu
  have ZS := Lib.hid zs; have ZO := Lib.hid zo; have BN := Lib.hid bn; have MS := Lib.hid ms; have A1 := Lib.hid a1; have A2 := Lib.hid a2; have B2 := Lib.hid b2; have MAY := Lib.hid hmay; have NEW := Lib.hid hnew
  clear zs zo bn ms a1 a2 b2 hmay hnew
  cases m with
  | false =>
    rw [if_pos rfl] at hu
    rw [hu]
    simp only
    rw [← hZ]
    clear hu hm hvv hv hZ hM hw
    go_enter Try.func12, Try.ntmps12
    go_upto_region 1 with fail
    clear hx
    generalize (w.alloc (.cells M 27)).alloc (.cells Z 27) = w2 at *
    go_wp2_with (refine wpList_load_all (by rfl) 27 _ (by rfl) w.heap.size (by rfl) _ Try.underlying27 (by rfl) M _ A1.out (by rw [MS.out]; exact infoHdR) ?_)
    refine (MAY.out _).mono ?_
    rintro e w3 ⟨rfl, hb⟩
    have A3 := Lib.hid (A2.out.below hb A2.out.lt); have B3 : Hid (Below w.heap.size w w3) := B2.out.trans (hb.mono B2.out.size)
    clear hb c0 A1 A2 B2 MAY
    go_wp2_with (first
      | (refine Mem.wpList_build (by rfl) 27 _ #[] (.agg Z) (by rfl) (by simp) BN.out ?_)
      | (refine wpList_store_all (by rfl) 27 _ _ (by rfl) (by rfl) (w.heap.size + 1) Z (by rfl) (by rfl) (by rw [ZS.out]; exact infoHdR) Z 27 A3.out (by rfl) ZO.out ?_))
    try simp only [Exit.inBlock, Exit.then]
    refine ret_row_tmp (by rfl) (w.heap.size + 1) 27 Z _ _ (by rfl) (by rfl) (A3.out.row Z) Try.underlying27 (by rfl) (by rw [ZS.out]; exact infoHdR) ?_
    exact ⟨rfl, below_row B3.out (Nat.le_succ _) Z⟩
  | true =>
    rw [if_neg (by decide)] at hu
    by_cases h2 : v = 2
    · rw [if_pos h2] at hu
      rw [hu]
      simp only
      rw [← hZ]
      subst h2
      clear hu hm hvv hv hZ hM hw
      go_enter Try.func12, Try.ntmps12
      go_upto_region 1 with fail
      clear hx
      generalize (w.alloc (.cells M 27)).alloc (.cells Z 27) = w2 at *
      go_wp2_with (refine wpList_load_all (by rfl) 27 _ (by rfl) w.heap.size (by rfl) _ Try.underlying27 (by rfl) M _ A1.out (by rw [MS.out]; exact infoHdR) ?_)
      refine (MAY.out _).mono ?_
      rintro e w3 ⟨rfl, hb⟩
      have A3 := Lib.hid (A2.out.below hb A2.out.lt); have B3 : Hid (Below w.heap.size w w3) := B2.out.trans (hb.mono B2.out.size)
      have c3 : w3.cell? ⟨w.heap.size, 0, none⟩ = some (.int .i64 2) := (hb.cell (p := ⟨w.heap.size, 0, none⟩) A1.out.lt).trans c0
      clear hb c0 A1 A2 B2 MAY
      go_wp2_with (first
        | (refine Mem.wpList_build (by rfl) 27 _ #[] (.agg Z) (by rfl) (by simp) BN.out ?_)
        | (refine wpList_store_all (by rfl) 27 _ _ (by rfl) (by rfl) (w.heap.size + 1) Z (by rfl) (by rfl) (by rw [ZS.out]; exact infoHdR) Z 27 A3.out (by rfl) ZO.out ?_))
      try simp only [Exit.inBlock, Exit.then]
      refine ret_row_tmp (by rfl) (w.heap.size + 1) 27 Z _ _ (by rfl) (by rfl) (A3.out.row Z) Try.underlying27 (by rfl) (by rw [ZS.out]; exact infoHdR) ?_
      exact ⟨rfl, below_row B3.out (Nat.le_succ _) Z⟩
    · rw [if_neg h2] at hu
      rw [hu]
      simp only
      have wf2 : HdV.Wf { h with ver := 2 } := ⟨by show (-9223372036854775808 : Int) ≤ 2; decide, by show (2 : Int) ≤ 9223372036854775807; decide, hw.p0, hw.p1, hw.wr, hw.lab⟩
      obtain ⟨F, hF⟩ : ∃ F, F = hdC { h with ver := 2 } := ⟨_, rfl⟩
      have fs : F.size = 84 := by rw [hF]; exact hdC_size wf2
      have fo : F.all (·.oneCell') = true := by rw [hF]; exact hdC_one _
      rw [← hF] at NEW ⊢
      have FS := Lib.hid fs; have FO := Lib.hid fo
      clear hu hm hvv hv hZ hM hw wf2 fs fo hF
      go_enter Try.func12, Try.ntmps12
      go_upto_region 1 with fail
      clear hx
      generalize (w.alloc (.cells M 27)).alloc (.cells Z 27) = w2 at *
      go_wp2_with (refine wpList_load_all (by rfl) 27 _ (by rfl) w.heap.size (by rfl) _ Try.underlying27 (by rfl) M _ A1.out (by rw [MS.out]; exact infoHdR) ?_)
      refine (MAY.out _).mono ?_
      rintro e w3 ⟨rfl, hb⟩
      have A4 := Lib.hid (A1.out.below hb A1.out.lt)
      have A3 := Lib.hid (A2.out.below hb A2.out.lt); have B3 : Hid (Below w.heap.size w w3) := B2.out.trans (hb.mono B2.out.size)
      have c3 : w3.cell? ⟨w.heap.size, 0, none⟩ = some (.int .i64 v) := (hb.cell (p := ⟨w.heap.size, 0, none⟩) A1.out.lt).trans c0
      clear hb c0 A1 A2 B2 MAY
      go_upto_region 5 with fail
      go_wp2_with (first
        | (refine Mem.wpList_store_one (by rfl) 3 _ _ (by rfl) (by rfl) w.heap.size 0 (.int .i64 2) (by rfl) (by rfl) (by rfl) infoI64 _ 27 A4.out (by rw [MS.out]; decide) ?_; intro w' hat' ho' hb'; have K' : Hid (At w' w.heap.size F 27) := Lib.hid (by rw [NEW.out] at hat'; exact hat'); have A5 : Hid (At w' (w.heap.size + 1) Z 27) := Lib.hid (at_keep A3.out ho' (by omega)); have B5 : Hid (Below w.heap.size w w') := Lib.hid (hb' _ _ B3.out (Nat.le_refl _)); clear hat' ho' hb')
        | (refine wpList_load_all (by rfl) 27 _ (by rfl) w.heap.size (by rfl) _ Try.underlying27 (by rfl) F _ K'.out (by rw [FS.out]; exact infoHdR) ?_)
        | (refine wpList_store_all (by rfl) 27 _ _ (by rfl) (by rfl) (w.heap.size + 1) F (by rfl) (by rfl) (by rw [FS.out]; exact infoHdR) Z 27 A5.out (by rw [ZS.out, FS.out]) FO.out ?_))
      try simp only [Exit.inBlock, Exit.then]
      refine ret_row_tmp (by rfl) (w.heap.size + 1) 27 F _ _ (by rfl) (by rfl) (At.row (C := Z) A5.out F) Try.underlying27 (by rfl) (by rw [FS.out]; exact infoHdR) ?_
      exact ⟨rfl, below_row B5.out (Nat.le_succ _) F⟩
set_option maxRecDepth 100000 in
set_option maxHeartbeats 4000000 in
theorem pup11_any (h : HdV) (hw : h.Wf) (w : World) : Calls Try.prog 11 #[.agg (hdC h)] w fun e w' => e = .returned (.tuple #[.agg (hdC (upH h).1), .int .i64 ((upH h).2 : Int)]) ∧ Below w.heap.size w w' := by
  have hmay := fun wx => pmay11_any h hw wx
  obtain ⟨Z, hZ⟩ : ∃ Z, Z = hdC zhd := ⟨_, rfl⟩
  have zs : Z.size = 84 := by rw [hZ]; exact hdC_size zhd_wf
  have zo : Z.all (·.oneCell') = true := by rw [hZ]; exact hdC_one _
  have hx : ∀ w, (zeroValue 35).run Try.prog w = .ok (.agg Z) w := by rw [hZ]; exact zeroHdP
  have bn : ∀ w, (Instr.build 35 #[]).run Try.prog w = .ok (.agg Z) w := by rw [hZ]; exact buildHP0
  have hu : upH h = if mayH h = false then (zhd, 1) else if h.ver = 2 then (zhd, 21) else ({ h with ver := 2 }, 0) := rfl
  have hv := hd_ver h
  obtain ⟨M, hM⟩ : ∃ M, M = hdC h := ⟨_, rfl⟩
  have ms : M.size = 84 := by rw [hM]; exact hdC_size hw
  obtain ⟨v, hvv⟩ : ∃ v, v = h.ver := ⟨_, rfl⟩
  rw [← hM, ← hvv] at hv
  rw [← hM] at hmay ⊢
  have a1 := (at_new w M 35).alloc (.cells Z 35)
  have a2 := at_new (w.alloc (.cells M 35)) Z 35
  rw [World.size_alloc] at a2
  have b2 : Below w.heap.size w ((w.alloc (.cells M 35)).alloc (.cells Z 35)) := ((Below.refl _ w).alloc (Nat.le_refl _) _).alloc (by simp) _
  have c0 := (a1.cell 0).trans hv
  have hnew : M.setIfInBounds 0 (.int .i64 2) = hdC { h with ver := 2 } := by rw [hM]; exact hd_eta2 h
  obtain ⟨m, hm⟩ : ∃ m, m = mayH h := ⟨_, rfl⟩
  rw [← hm] at hmay hu
  rw [← hvv] at hu
  have ZS := Lib.hid zs; have ZO := Lib.hid zo; have BN := Lib.hid bn; have MS := Lib.hid ms; have A1 := Lib.hid a1; have A2 := Lib.hid a2; have B2 := Lib.hid b2; have MAY := Lib.hid hmay; have NEW := Lib.hid hnew
  clear zs zo bn ms a1 a2 b2 hmay hnew
  cases m with
  | false =>
    rw [if_pos rfl] at hu
    rw [hu]
    simp only
    rw [← hZ]
    clear hu hm hvv hv hZ hM hw
    go_enter Try.func11, Try.ntmps11
    go_upto_region 1 with fail
    clear hx
    generalize (w.alloc (.cells M 35)).alloc (.cells Z 35) = w2 at *
    go_wp2_with (refine wpList_load_all (by rfl) 35 _ (by rfl) w.heap.size (by rfl) _ Try.underlying35 (by rfl) M _ A1.out (by rw [MS.out]; exact infoHdP) ?_)
    refine (MAY.out _).mono ?_
    rintro e w3 ⟨rfl, hb⟩
    have A3 := Lib.hid (A2.out.below hb A2.out.lt); have B3 : Hid (Below w.heap.size w w3) := B2.out.trans (hb.mono B2.out.size)
    clear hb c0 A1 A2 B2 MAY
    go_wp2_with (first
      | (refine Mem.wpList_build (by rfl) 35 _ #[] (.agg Z) (by rfl) (by simp) BN.out ?_)
      | (refine wpList_store_all (by rfl) 35 _ _ (by rfl) (by rfl) (w.heap.size + 1) Z (by rfl) (by rfl) (by rw [ZS.out]; exact infoHdP) Z 35 A3.out (by rfl) ZO.out ?_))
    try simp only [Exit.inBlock, Exit.then]
    refine ret_row_tmp (by rfl) (w.heap.size + 1) 35 Z _ _ (by rfl) (by rfl) (A3.out.row Z) Try.underlying35 (by rfl) (by rw [ZS.out]; exact infoHdP) ?_
    exact ⟨rfl, below_row B3.out (Nat.le_succ _) Z⟩
  | true =>
    rw [if_neg (by decide)] at hu
    by_cases h2 : v = 2
    · rw [if_pos h2] at hu
      rw [hu]
      simp only
      rw [← hZ]
      subst h2
      clear hu hm hvv hv hZ hM hw
      go_enter Try.func11, Try.ntmps11
      go_upto_region 1 with fail
      clear hx
      generalize (w.alloc (.cells M 35)).alloc (.cells Z 35) = w2 at *
      go_wp2_with (refine wpList_load_all (by rfl) 35 _ (by rfl) w.heap.size (by rfl) _ Try.underlying35 (by rfl) M _ A1.out (by rw [MS.out]; exact infoHdP) ?_)
      refine (MAY.out _).mono ?_
      rintro e w3 ⟨rfl, hb⟩
      have A3 := Lib.hid (A2.out.below hb A2.out.lt); have B3 : Hid (Below w.heap.size w w3) := B2.out.trans (hb.mono B2.out.size)
      have c3 : w3.cell? ⟨w.heap.size, 0, none⟩ = some (.int .i64 2) := (hb.cell (p := ⟨w.heap.size, 0, none⟩) A1.out.lt).trans c0
      clear hb c0 A1 A2 B2 MAY
      go_wp2_with (first
        | (refine Mem.wpList_build (by rfl) 35 _ #[] (.agg Z) (by rfl) (by simp) BN.out ?_)
        | (refine wpList_store_all (by rfl) 35 _ _ (by rfl) (by rfl) (w.heap.size + 1) Z (by rfl) (by rfl) (by rw [ZS.out]; exact infoHdP) Z 35 A3.out (by rfl) ZO.out ?_))
      try simp only [Exit.inBlock, Exit.then]
      refine ret_row_tmp (by rfl) (w.heap.size + 1) 35 Z _ _ (by rfl) (by rfl) (A3.out.row Z) Try.underlying35 (by rfl) (by rw [ZS.out]; exact infoHdP) ?_
      exact ⟨rfl, below_row B3.out (Nat.le_succ _) Z⟩
    · rw [if_neg h2] at hu
      rw [hu]
      simp only
      have wf2 : HdV.Wf { h with ver := 2 } := ⟨by show (-9223372036854775808 : Int) ≤ 2; decide, by show (2 : Int) ≤ 9223372036854775807; decide, hw.p0, hw.p1, hw.wr, hw.lab⟩
      obtain ⟨F, hF⟩ : ∃ F, F = hdC { h with ver := 2 } := ⟨_, rfl⟩
      have fs : F.size = 84 := by rw [hF]; exact hdC_size wf2
      have fo : F.all (·.oneCell') = true := by rw [hF]; exact hdC_one _
      rw [← hF] at NEW ⊢
      have FS := Lib.hid fs; have FO := Lib.hid fo
      clear hu hm hvv hv hZ hM hw wf2 fs fo hF
      go_enter Try.func11, Try.ntmps11
      go_upto_region 1 with fail
      clear hx
      generalize (w.alloc (.cells M 35)).alloc (.cells Z 35) = w2 at *
      go_wp2_with (refine wpList_load_all (by rfl) 35 _ (by rfl) w.heap.size (by rfl) _ Try.underlying35 (by rfl) M _ A1.out (by rw [MS.out]; exact infoHdP) ?_)
      refine (MAY.out _).mono ?_
      rintro e w3 ⟨rfl, hb⟩
      have A4 := Lib.hid (A1.out.below hb A1.out.lt)
      have A3 := Lib.hid (A2.out.below hb A2.out.lt); have B3 : Hid (Below w.heap.size w w3) := B2.out.trans (hb.mono B2.out.size)
      have c3 : w3.cell? ⟨w.heap.size, 0, none⟩ = some (.int .i64 v) := (hb.cell (p := ⟨w.heap.size, 0, none⟩) A1.out.lt).trans c0
      clear hb c0 A1 A2 B2 MAY
      go_upto_region 5 with fail
      go_wp2_with (first
        | (refine Mem.wpList_store_one (by rfl) 3 _ _ (by rfl) (by rfl) w.heap.size 0 (.int .i64 2) (by rfl) (by rfl) (by rfl) infoI64 _ 35 A4.out (by rw [MS.out]; decide) ?_; intro w' hat' ho' hb'; have K' : Hid (At w' w.heap.size F 35) := Lib.hid (by rw [NEW.out] at hat'; exact hat'); have A5 : Hid (At w' (w.heap.size + 1) Z 35) := Lib.hid (at_keep A3.out ho' (by omega)); have B5 : Hid (Below w.heap.size w w') := Lib.hid (hb' _ _ B3.out (Nat.le_refl _)); clear hat' ho' hb')
        | (refine wpList_load_all (by rfl) 35 _ (by rfl) w.heap.size (by rfl) _ Try.underlying35 (by rfl) F _ K'.out (by rw [FS.out]; exact infoHdP) ?_)
        | (refine wpList_store_all (by rfl) 35 _ _ (by rfl) (by rfl) (w.heap.size + 1) F (by rfl) (by rfl) (by rw [FS.out]; exact infoHdP) Z 35 A5.out (by rw [ZS.out, FS.out]) FO.out ?_))
      try simp only [Exit.inBlock, Exit.then]
      refine ret_row_tmp (by rfl) (w.heap.size + 1) 35 F _ _ (by rfl) (by rfl) (At.row (C := Z) A5.out F) Try.underlying35 (by rfl) (by rw [FS.out]; exact infoHdP) ?_
      exact ⟨rfl, below_row B5.out (Nat.le_succ _) F⟩
end Sha
end Go.Proofs.Ytbnjihpafipbnaa
namespace Go.Proofs.Ytbnjihpafipbnaa
namespace Sha
open Go.RowKit Mem
set_option maxRecDepth 100000 in
set_option maxHeartbeats 2000000 in
theorem theirs11_any (h : HdV) (hw : h.Wf) (w : World) : Calls Try.prog 9 #[.agg (hdC h)] w fun e w' => e = .returned (.agg (hdC h)) ∧ Below w.heap.size w w' := by
  obtain ⟨Z, hZ⟩ : ∃ Z, Z = hdC zhd := ⟨_, rfl⟩
  have zs : Z.size = 84 := by rw [hZ]; exact hdC_size zhd_wf
  have hx : ∀ w, (zeroValue 35).run Try.prog w = .ok (.agg Z) w := by rw [hZ]; exact zeroHdP
  have bd := fun wx => buildHP4 h hw wx
  have hv := hd_ver h; have hp := hd_pages h; have hl := hd_lab hw; have hwr := hd_wr hw
  obtain ⟨M, hM⟩ : ∃ M, M = hdC h := ⟨_, rfl⟩
  have ms : M.size = 84 := by rw [hM]; exact hdC_size hw
  have mo : M.all (·.oneCell') = true := by rw [hM]; exact hdC_one _
  obtain ⟨C, hC⟩ : ∃ C, C = wrC h.wr := ⟨_, rfl⟩
  obtain ⟨S, hS⟩ : ∃ S, S = strOfNums (i8s h.lab) := ⟨_, rfl⟩
  rw [← hM, ← hC, ← hS] at bd
  rw [← hM] at hv hp hl hwr ⊢
  rw [← hS] at hl
  rw [← hC] at hwr
  have a1 := (at_new w M 27).alloc (.cells Z 35)
  have a2 := at_new (w.alloc (.cells M 27)) Z 35
  rw [World.size_alloc] at a2
  have b2 : Below w.heap.size w ((w.alloc (.cells M 27)).alloc (.cells Z 35)) := ((Below.refl _ w).alloc (Nat.le_refl _) _).alloc (by simp) _
  have c0 := (a1.cell 0).trans hv; have c1 := (a1.cell 1).trans hp; have c83 := (a1.cell 83).trans hl
  have ZS := Lib.hid zs; have MS := Lib.hid ms; have MO := Lib.hid mo; have A1 := Lib.hid a1; have A2 := Lib.hid a2; have B2 := Lib.hid b2; have BD := Lib.hid bd; have HW := Lib.hid hwr
  obtain ⟨v, hvv⟩ : ∃ v, v = h.ver := ⟨_, rfl⟩
  obtain ⟨p, hpp⟩ : ∃ p, p = h.pages := ⟨_, rfl⟩
  rw [← hvv] at c0 BD
  rw [← hpp] at c1 BD
  clear zs ms mo a1 a2 b2 bd hv hp hl hwr hZ hM hC hS hw hvv hpp
  go_enter Try.func9, Try.ntmps9
  go_upto_region 1 with fail
  clear hx
  generalize (w.alloc (.cells M 27)).alloc (.cells Z 35) = w2 at *
  go_wp2_with (first
    | (refine wpList_load_is (by rfl) 25 _ (by rfl) w.heap.size 2 81 (by rfl) _ Try.underlying25 (by rfl) infoWrR M _ A1.out (by rw [MS.out]; decide) C HW.out ?_)
    | (refine Mem.wpList_build (by rfl) 35 _ #[(0, .int .i64 v), (1, .int .i64 p), (2, .agg C), (3, .string S)] (.agg M) (by rfl) (by simp [Act.eval]) BD.out ?_)
    | (refine wpList_store_all (by rfl) 35 _ _ (by rfl) (by rfl) (w.heap.size + 1) M (by rfl) (by rfl) (by rw [MS.out]; exact infoHdP) Z 35 A2.out (by rw [MS.out, ZS.out]) MO.out ?_))
  try simp only [Exit.inBlock, Exit.then]
  refine ret_row (by rfl) (w.heap.size + 1) 35 M _ (by rfl) (At.row (C := Z) A2.out M) Try.underlying35 (by rfl) (by rw [MS.out]; exact infoHdP) ?_
  exact ⟨rfl, below_row B2.out (Nat.le_succ _) M⟩
set_option maxRecDepth 100000 in
set_option maxHeartbeats 2000000 in
theorem ours11_any (h : HdV) (hw : h.Wf) (w : World) : Calls Try.prog 16 #[.agg (hdC h)] w fun e w' => e = .returned (.agg (hdC h)) ∧ Below w.heap.size w w' := by
  obtain ⟨Z, hZ⟩ : ∃ Z, Z = hdC zhd := ⟨_, rfl⟩
  have zs : Z.size = 84 := by rw [hZ]; exact hdC_size zhd_wf
  have hx : ∀ w, (zeroValue 27).run Try.prog w = .ok (.agg Z) w := by rw [hZ]; exact zeroHdR
  have bd := fun wx => buildHR4 h hw wx
  have hv := hd_ver h; have hp := hd_pages h; have hl := hd_lab hw; have hwr := hd_wr hw
  obtain ⟨M, hM⟩ : ∃ M, M = hdC h := ⟨_, rfl⟩
  have ms : M.size = 84 := by rw [hM]; exact hdC_size hw
  have mo : M.all (·.oneCell') = true := by rw [hM]; exact hdC_one _
  obtain ⟨C, hC⟩ : ∃ C, C = wrC h.wr := ⟨_, rfl⟩
  obtain ⟨S, hS⟩ : ∃ S, S = strOfNums (i8s h.lab) := ⟨_, rfl⟩
  rw [← hM, ← hC, ← hS] at bd
  rw [← hM] at hv hp hl hwr ⊢
  rw [← hS] at hl
  rw [← hC] at hwr
  have a1 := (at_new w M 35).alloc (.cells Z 27)
  have a2 := at_new (w.alloc (.cells M 35)) Z 27
  rw [World.size_alloc] at a2
  have b2 : Below w.heap.size w ((w.alloc (.cells M 35)).alloc (.cells Z 27)) := ((Below.refl _ w).alloc (Nat.le_refl _) _).alloc (by simp) _
  have c0 := (a1.cell 0).trans hv; have c1 := (a1.cell 1).trans hp; have c83 := (a1.cell 83).trans hl
  have ZS := Lib.hid zs; have MS := Lib.hid ms; have MO := Lib.hid mo; have A1 := Lib.hid a1; have A2 := Lib.hid a2; have B2 := Lib.hid b2; have BD := Lib.hid bd; have HW := Lib.hid hwr
  obtain ⟨v, hvv⟩ : ∃ v, v = h.ver := ⟨_, rfl⟩
  obtain ⟨p, hpp⟩ : ∃ p, p = h.pages := ⟨_, rfl⟩
  rw [← hvv] at c0 BD
  rw [← hpp] at c1 BD
  clear zs ms mo a1 a2 b2 bd hv hp hl hwr hZ hM hC hS hw hvv hpp
  go_enter Try.func16, Try.ntmps16
  go_upto_region 1 with fail
  clear hx
  generalize (w.alloc (.cells M 35)).alloc (.cells Z 27) = w2 at *
  go_wp2_with (first
    | (refine wpList_load_is (by rfl) 33 _ (by rfl) w.heap.size 2 81 (by rfl) _ Try.underlying33 (by rfl) infoWrP M _ A1.out (by rw [MS.out]; decide) C HW.out ?_)
    | (refine Mem.wpList_build (by rfl) 27 _ #[(0, .int .i64 v), (1, .int .i64 p), (2, .agg C), (3, .string S)] (.agg M) (by rfl) (by simp [Act.eval]) BD.out ?_)
    | (refine wpList_store_all (by rfl) 27 _ _ (by rfl) (by rfl) (w.heap.size + 1) M (by rfl) (by rfl) (by rw [MS.out]; exact infoHdR) Z 27 A2.out (by rw [MS.out, ZS.out]) MO.out ?_))
  try simp only [Exit.inBlock, Exit.then]
  refine ret_row (by rfl) (w.heap.size + 1) 27 M _ (by rfl) (At.row (C := Z) A2.out M) Try.underlying27 (by rfl) (by rw [MS.out]; exact infoHdR) ?_
  exact ⟨rfl, below_row B2.out (Nat.le_succ _) M⟩
end Sha
end Go.Proofs.Ytbnjihpafipbnaa
