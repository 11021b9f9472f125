/- The program's turning of bytes: its walk. The document's turning of bytes: its walk. The document's Seal, Hide and Open (written by sealref.py). The law's own far, and its check that a text is turned twice (alive): their walks. -/
import Derived.Test.YtajdpbbbocnfiaaDoorBx31
import Derived.Test.YtajdpbbbocnfiaaDoorBx01
import Derived.Test.YtajdpbbbocnfiaaDoorBx03
import Derived.Test.YtajdpbbbocnfiaaDoorBx32
import Derived.Test.YtajdpbbbocnfiaaDoorBx13
import Derived.Test.YtajdpbbbocnfiaaDoorBx29
import Derived.Test.YtajdpbbbocnfiaaDoorBx06
import Derived.Lib.SlBytesConst
import Derived.Laws.BytesArg
namespace Go.Proofs.YtajdpbbbocnfiaaDoor
namespace Sha
open Go.RowKit Mem
theorem cturn_joinB (b s : List (BitVec 8)) (h : b.length = s.length) : cturn b s = joinB b s := by
  rw [cturn, ← h, List.drop_length, List.append_nil]; rfl
theorem splice_full (l : List (BitVec 8)) (n : Nat) (h : l.length = n) : Mem.splice (u8s (List.replicate n 0)).toArray 0 (u8s (l.take n)) = (u8s l).toArray := by
  subst h
  rw [List.take_length]
  have h1 : List.drop (0 + (u8s l).length) (u8s (List.replicate l.length 0)).toArray.toList = [] := List.drop_of_length_le (by simp [u8s])
  unfold Mem.splice
  rw [h1, List.take_zero, List.nil_append, List.append_nil]
theorem two_made {w w4 : World} {C D : Array Value} {m : Nat} (ho : w4.ownsRow ((w.alloc (.cells C 22)).alloc (.cells D 119)).heap.size 5 1 (.slice (some ⟨((w.alloc (.cells C 22)).alloc (.cells D 119)).heap.size, 0, none⟩) m m) m (madeCells (Value.int .u8 0).cells (m * 1)).toList)
    (hg : World.grownBy ((w.alloc (.cells C 22)).alloc (.cells D 119)) w4 none) :
    At w4 (w.heap.size + 1 + 1) (u8s (List.replicate m 0)).toArray 5 ∧ At w4 w.heap.size C 22 ∧ At w4 (w.heap.size + 1) D 119 ∧ Below w.heap.size w w4 := by
  have aC : At ((w.alloc (.cells C 22)).alloc (.cells D 119)) w.heap.size C 22 := (at_new w C _).alloc _
  have aD : At ((w.alloc (.cells C 22)).alloc (.cells D 119)) (w.heap.size + 1) D 119 := by
    have h := at_new (w.alloc (.cells C 22)) D 119
    simpa using h
  have aB : Below w.heap.size w ((w.alloc (.cells C 22)).alloc (.cells D 119)) := ((Below.refl _ _).alloc (Nat.le_refl _) _).alloc (by simp) _
  have key0 : ∀ b E t, At ((w.alloc (.cells C 22)).alloc (.cells D 119)) b E t → At w4 b E t := fun b E t h => by
    have hl := h.lt
    unfold At at *
    rw [hg.block b hl (by simp)]; exact h
  refine ⟨?_, key0 _ _ _ aC, key0 _ _ _ aD, aB.grown hg aB.size (fun _ h => by cases h)⟩
  have h := own_full ho
  rw [made_zeros] at h
  simpa using h
structure TuInv (L s : List (BitVec 8)) (g : Nat) (w wr : World) : Prop where
  row : At wr (w.heap.size + 1 + 1) (u8s L).toArray 5
  st : At wr g (u8s s).toArray 5
  b : Below w.heap.size w wr
set_option maxRecDepth 100000 in
set_option maxHeartbeats 2000000 in
theorem turned_any (key nonce : List (BitVec 8)) (n : BitVec 32) (l : List (BitVec 8)) (v : Value) (lk : key.length = 32) (ln : nonce.length = 12) (hz : l.length ≤ 1048576) (w : World) (hv : Sl w v l) (hL : CTabs w) :
    Calls Tryd.prog 66 #[.agg (u8s key).toArray, .agg (u8s nonce).toArray, .int .u32 (V n), v] w (SEnd w (cturn l (cstream key nonce n l.length))) := by
  have hst := fun wx (h : Below w.heap.size w wx) => stream_good key nonce n l.length lk ln hz wx (hL.below h (Nat.le_refl _))
  obtain ⟨s, hs⟩ : ∃ s, s = cstream key nonce n l.length := ⟨_, rfl⟩
  have ls : s.length = l.length := by rw [hs]; exact cstream_length _ _ _ _
  rw [← hs] at hst ⊢
  rw [cturn_joinB l s ls.symm]
  have hv0 := hv
  obtain ⟨a0, cap, rfl, _, _⟩ := hv
  have hsp := splice_full l l.length rfl
  have jl := joinTo_length l s ls.symm
  have jz := joinTo_zero l s
  have ja := joinTo_all l s ls.symm
  have jg := fun j hj => joinTo_get l s ls.symm j hj
  have js := fun j hj => joinTo_set l s ls.symm j hj
  have jB := joinB_length l s ls.symm
  obtain ⟨m, hm⟩ : ∃ m, m = l.length := ⟨_, rfl⟩
  rw [← hm] at hst hsp jl ja jg js jB ls hz hv0 ⊢
  have hmin : min (m : Int) 1048576 = (m : Int) := by omega
  have hmle : (m : Int) ≤ 1048576 := by omega
  have hmlt : ¬ (1048576 : Int) < (m : Int) := by omega
  obtain ⟨C, hC⟩ : ∃ C, C = (u8s key).toArray := ⟨_, rfl⟩
  obtain ⟨D, hD⟩ : ∃ D, D = (u8s nonce).toArray := ⟨_, rfl⟩
  have hCs : C.size = 32 := by rw [hC]; simp [u8s, lk]
  have hDs : D.size = 12 := by rw [hD]; simp [u8s, ln]
  rw [← hC, ← hD] at hst
  rw [← hC, ← hD]
  obtain ⟨i8, hi8, hz8, hs8, hb8⟩ := info_parts infoU8
  have ST := Lib.hid hst; have CS := Lib.hid hCs; have DS := Lib.hid hDs; have I8 := Lib.hid hi8; have Z8 := Lib.hid hz8; have S8 := Lib.hid hs8; have B8' := Lib.hid hb8; have HV := Lib.hid hv0; have SP := Lib.hid hsp
  have JL := Lib.hid jl; have JZ := Lib.hid jz; have JA := Lib.hid ja; have JG := Lib.hid jg; have JS := Lib.hid js; have JB := Lib.hid jB; have LS := Lib.hid ls; have HM := Lib.hid hm
  clear hst hCs hDs hi8 hz8 hs8 hb8 hC hD lk ln hL hv0 hsp jl jz ja jg js jB ls hm hs
  go_enter Tryd.func66, Tryd.ntmps66
  go_wp2_with (first
    | (refine wpList_make_full _ (by rfl) _ _ 41 (by rfl) ((w.alloc (.cells C 22)).alloc (.cells D 119)).heap.size 5 i8 (.int .u8 0) 1 Tryd.underlying41 I8.out Z8.out S8.out .i64 .i64 _ _ m (by rfl) (by rfl) rfl rfl (by rw [B8'.out]; omega) (by simp [maxLen]; omega) (Nat.le_refl _) ?_; intro w4 ho4 hg4; have hf := two_made ho4 hg4; have R4 := Lib.hid hf.1; have C4 := Lib.hid hf.2.1; have D4 := Lib.hid hf.2.2.1; have B4 := Lib.hid hf.2.2.2; clear ho4 hg4 hf)
    | (refine wpList_copy_sl (by rfl) _ _ (by rfl) (w.heap.size + 1 + 1) 0 m m (.slice a0 m cap) l (by rfl) (by rfl) (HV.out.below B4.out) m (by rw [← HM.out]; exact (Nat.min_self m).symm) _ _ R4.out (by simp [u8s]) _ SP.out ?_; intro w5 ha5 hs5 ho5 hbb5; have R5 := Lib.hid ha5; have C5 := Lib.hid (at_keep C4.out ho5 (by omega)); have D5 := Lib.hid (at_keep D4.out ho5 (by omega)); have B5 := Lib.hid (hbb5 _ _ B4.out (by omega)); clear ha5 hs5 ho5 hbb5)
    | (refine wpList_load_all (by rfl) 22 _ (by rfl) w.heap.size (by rfl) _ Tryd.underlying22 (by rfl) C _ C5.out (by rw [CS.out]; exact info32b) ?_)
    | (refine wpList_load_all (by rfl) 119 _ (by rfl) (w.heap.size + 1) (by rfl) _ Tryd.underlying119 (by rfl) D _ D5.out (by rw [DS.out]; exact info12) ?_))
  refine (ST.out _ B5.out).mono ?_
  rintro e w6 ⟨g, rfl, hg6, hgl, hb6⟩
  rw [LS.out]
  have I6 : Hid (TuInv (joinTo l s 0) s g w w6) := ⟨by rw [JZ.out]; exact R5.out.below hb6 R5.out.lt, hg6, B5.out.trans (hb6.mono B5.out.size)⟩
  have GNE : Hid (w.heap.size + 1 + 1 ≠ g) := by have := R5.out.lt; show w.heap.size + 1 + 1 ≠ g; omega
  have GLE : Hid (w.heap.size ≤ g) := Nat.le_trans B5.out.size hgl
  clear hg6 hgl hb6 R4 C4 D4 B4 R5 C5 D5 B5 ST HV SP
  go_wp2_with fail
  go_loopw [10, 11, 26] (fun _ _ i wr => ∃ j : Nat, j ≤ m ∧ i = .int .i64 j ∧ TuInv (joinTo l s j) s g w wr) (fun _ _ i _ => m - (intOf i).toNat)
  case atStart => exact ⟨0, by omega, rfl, I6.out⟩
  case round =>
    clear I6
    obtain ⟨j, hj, rfl, hI⟩ := hrel
    by_cases hlt : j < m
    · obtain ⟨x, hxx⟩ : ∃ x, x = l.getD j 0 := ⟨_, rfl⟩
      obtain ⟨y, hyy⟩ : ∃ y, y = s.getD j 0 := ⟨_, rfl⟩
      have cj : wr.cell? ⟨w.heap.size + 1 + 1, j, none⟩ = some (.int .u8 (B8 x)) := by
        rw [hI.row.cell, List.getElem?_toArray, u8s_get _ _ (by rw [JL.out]; exact hlt), JG.out j hlt, hxx]; rfl
      have dj : wr.cell? ⟨g, j, none⟩ = some (.int .u8 (B8 y)) := by
        rw [hI.st.cell, List.getElem?_toArray, u8s_get _ _ (by rw [LS.out]; exact hlt), hyy]; rfl
      have hset : (u8s (joinTo l s j)).toArray.setIfInBounds j (.int .u8 (B8 (x ^^^ y))) = (u8s (joinTo l s (j + 1))).toArray := by
        rw [← JS.out j hlt, ← hxx, ← hyy]; exact u8s_set _ _ _
      have hEs : j < (u8s (joinTo l s j)).toArray.size := by rw [List.size_toArray, u8s_length, JL.out]; exact hlt
      have hk := hI.row
      obtain ⟨E, hE⟩ : ∃ E, E = (u8s (joinTo l s j)).toArray := ⟨_, rfl⟩
      rw [← hE] at hk hset hEs
      have KK := Lib.hid hk; have ST := Lib.hid hset; have DS := Lib.hid hEs; have SS := Lib.hid hI.st; have BB := Lib.hid hI.b
      have hlt' : (j : Int) < (m : Int) := by omega
      clear hk hset hEs hI hE hxx hyy
      go_wp2_with (refine Mem.wpList_store_one (by rfl) 5 _ _ (by rfl) (by rfl) (w.heap.size + 1 + 1) j (.int .u8 (B8 (x ^^^ y))) (by rfl) (by exact congrArg (Value.int .u8) (B8_xor x y)) (by rfl) infoB _ _ KK.out DS.out ?_; intro w7 a7 o7 b7; have K7 := Lib.hid a7; have S7 := Lib.hid (at_keep SS.out o7 (Ne.symm GNE.out)); have B7 := Lib.hid (b7 _ _ BB.out (by omega)); clear a7 o7 b7)
      go_roundw
      case rel => exact ⟨j + 1, by omega, by go_num, by rw [← ST.out]; exact K7.out, S7.out, B7.out⟩
      case measure => simp [intOf]; omega
    · have hjm : j = m := by omega
      have hge : ¬ (j : Int) < (m : Int) := by omega
      rw [hjm, JA.out] at hI
      have II := Lib.hid hI
      clear hI hjm hlt hj
      go_wp2_with fail
      go_ret
      exact ⟨w.heap.size + 1 + 1, by rw [JB.out]; rfl, II.out.row, by omega, II.out.b⟩
end Sha
end Go.Proofs.YtajdpbbbocnfiaaDoor
namespace Go.Proofs.YtajdpbbbocnfiaaDoor
namespace Mem
open Go.RowKit
/-- One element of an own slice set. -/
theorem OwnV.set {w : World} {B : Nat} {e : TypeId} {v : Value} {xs : List Value} (h : OwnV w B e v xs) (i : Nat) (u : Value) (hi : i < xs.length) :
    ∃ g cap C, v = .slice (some ⟨g, 0, none⟩) xs.length cap ∧ B ≤ g ∧ At w g C e ∧ i < C.size ∧ ∀ w', At w' g (C.setIfInBounds i u) e → OwnV w' B e v (xs.set i u) := by
  obtain ⟨_, h | ⟨g, cap, cur, rfl, hg, hh, hn, hc, hs, ht⟩⟩ := h
  · obtain ⟨_, h0⟩ := h
    omega
  · refine ⟨g, cap, cur, rfl, hg, hh, by rw [hs]; omega, fun w' hw' => ⟨by simp, .inr ⟨g, cap, cur.setIfInBounds i u, by rw [List.length_set], hg, hw', by rw [List.length_set]; exact hn, hc, by rw [Array.size_setIfInBounds]; exact hs, ?_⟩⟩⟩
    rw [List.length_set, Array.toList_setIfInBounds, List.take_set, ht]
end Mem
namespace Sha
open Go.RowKit Mem
end Sha
end Go.Proofs.YtajdpbbbocnfiaaDoor
namespace Go.Proofs.YtajdpbbbocnfiaaDoor
namespace Sha
open Go.RowKit Mem
theorem conv_i64u (z : Int) (bb : BitVec 64) (hb : bb = BitVec.ofNat 64 z.toNat) (h0 : 0 ≤ z) (h1 : z ≤ 9223372036854775807) (w : World) : (convert 3 109 (.int .i64 z)).run Tryd.prog w = .ok (.int .u64 (bb.toNat : Int)) w := by
  have e : (bb.toNat : Int) = z := by rw [hb, BitVec.toNat_ofNat]; omega
  rw [e]
  have h2 : IntKind.u64.wrap z = z := by rw [IntKind.wrap_u64]; omega
  go_simp
/-- A page turned by a key, an epoch and a block. -/
def sealL (key : List (BitVec 8)) (ep : BitVec 32) (block : Int) (page : List (BitVec 8)) : List (BitVec 8) := cturn page (cstream key (cnonce ep (BitVec.ofNat 64 block.toNat)) 0 page.length)
theorem sealL_length (key : List (BitVec 8)) (ep : BitVec 32) (block : Int) (page : List (BitVec 8)) : (sealL key ep block page).length = page.length := cturn_length _ _ (by rw [cstream_length]; exact Nat.le_refl _)
theorem sealL_back (key : List (BitVec 8)) (ep : BitVec 32) (block : Int) (page : List (BitVec 8)) : sealL key ep block (sealL key ep block page) = page := by
  show cturn (sealL key ep block page) (cstream key _ 0 (sealL key ep block page).length) = page
  rw [sealL_length]
  exact cturn_back _ _ (by rw [cstream_length]; exact Nat.le_refl _)
def sealBad (block : Int) (page : List (BitVec 8)) : Bool := decide (page.length ≠ 256 ∨ block < 0)
/-- Seal: the block, and the error. -/
def sealR (key : List (BitVec 8)) (ep : BitVec 32) (block : Int) (page : List (BitVec 8)) : List (BitVec 8) × Int := if sealBad block page then ([], 1) else (sealL key ep block page, 0)
/-- Hide: the block, the reference, the error. -/
def hideR (key : List (BitVec 8)) (ep : BitVec 32) (place block : Int) (page : List (BitVec 8)) : List (BitVec 8) × RefV × Int :=
  if sealBad block page || decide (place < 0 ∨ 1 < place) then ([], zref, 1) else (sealL key ep block page, ⟨place, ep, digestOf (sealL key ep block page)⟩, 0)
/-- Open: the page, and the error. -/
def openR (key : List (BitVec 8)) (r : RefV) (block : Int) (x : List (BitVec 8)) : List (BitVec 8) × Int :=
  if sealBad block x then ([], 1) else if digestOf x ≠ r.dg then ([], 9) else (sealL key r.ep block x, 0)
theorem wf_dig (place : Int) (ep : BitVec 32) (l : List (BitVec 8)) (h0 : 0 ≤ place) (h1 : place ≤ 1) : RefV.Wf ⟨place, ep, digestOf l⟩ := by
  have hd := digestOf_length l
  generalize digestOf l = D at *
  exact ⟨by show _ ≤ place; omega, by show place ≤ _; omega, hd⟩
theorem hideR_wf (key : List (BitVec 8)) (ep : BitVec 32) (place block : Int) (page : List (BitVec 8)) : (hideR key ep place block page).2.1.Wf := by
  unfold hideR
  split
  · exact zref_wf
  · rename_i h
    simp at h
    exact wf_dig place ep _ (by omega) (by omega)
end Sha
end Go.Proofs.YtajdpbbbocnfiaaDoor
namespace Go.Proofs.YtajdpbbbocnfiaaDoor
namespace Sha
open Go.RowKit Mem
theorem build_K0 (w : World) : (Instr.build 22 #[]).run Tryd.prog w = .ok (.agg (u8s (List.replicate 32 0)).toArray) w := by kernel_rfl
end Sha
end Go.Proofs.YtajdpbbbocnfiaaDoor
