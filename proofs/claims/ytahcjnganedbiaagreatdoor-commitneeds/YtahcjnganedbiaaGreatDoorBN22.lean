/- My own texts, merged. -/
import Derived.Test.YtahcjnganedbiaaGreatDoorBN21
import Derived.Test.YtahcjnganedbiaaGreatDoorBN09
import Derived.Test.YtahcjnganedbiaaGreatDoorBN20
import Derived.Great.Walk
import Derived.Test.YtahcjnganedbiaaGreatDoorBN17
import Derived.Laws.CopyRow
import Derived.Laws.IdiomCopy
import Derived.BigQuiet
import Derived.Test.YtahcjnganedbiaaGreatDoorBN14
import Derived.WalkKit
import Derived.Lib.SmallJoins
namespace Go.Proofs.YtahcjnganedbiaaGreatDoor
namespace Sha
open Go.RowKit Mem
theorem sl_dg {w : World} {bx : Nat} {r : RefV} {t : TypeId} (hA : At w bx (refC r) t) (h : r.Wf) : Sl w (.slice (some ⟨bx, 2, none⟩) 32 32) r.dg :=
 ⟨_, _, by rw [h.dg], by rw [h.dg]; exact Nat.le_refl _, fun _ => ⟨bx, 2, rfl, hA.lt, fun i hi => (hA.cell _).trans (ref_dg h i (by rw [h.dg] at hi; exact hi))⟩⟩
def refCs (L : List RefV) : List Value := L.flatMap refL
theorem refL_length {r : RefV} (h : r.Wf) : (refL r).length = 34 := by simp [refL, u8s_length, h.dg]
theorem refCs_length (L : List RefV) (h : ∀ r ∈ L, r.Wf) : (refCs L).length = L.length * 34 := by
 induction L with
 | nil => rfl
 | cons r L ih =>
  unfold refCs at *
  rw [List.flatMap_cons, List.length_append, refL_length (h r (List.mem_cons_self ..)), ih (fun x hx => h x (List.mem_cons_of_mem _ hx)), List.length_cons]
  omega
theorem refCs_snoc (L : List RefV) (r : RefV) : refCs (L ++ [r]) = refCs L ++ refL r := by simp [refCs]
theorem refCs_get : ∀ (L : List RefV), (∀ r ∈ L, r.Wf) → ∀ i k, i < L.length → k < 34 → (refCs L)[i * 34 + k]? = (refL (L.getD i zref))[k]? := by
 intro L
 induction L with
 | nil => intro _ i k hi _; simp at hi
 | cons r L ih =>
  intro h i k hi hk
  have hl := refL_length (h r (List.mem_cons_self ..))
  unfold refCs
  rw [List.flatMap_cons]
  match i with
  | 0 => rw [Nat.zero_mul, Nat.zero_add, List.getElem?_append_left (by omega)]; rfl
  | i + 1 =>
   rw [List.getElem?_append_right (by omega), hl, show (i + 1) * 34 + k - 34 = i * 34 + k by omega]
   exact ih (fun x hx => h x (List.mem_cons_of_mem _ hx)) i k (by simpa using hi) hk
theorem getD_wf {L : List RefV} (h : ∀ r ∈ L, r.Wf) (i : Nat) : (L.getD i zref).Wf := by
 rw [List.getD_eq_getElem?_getD]
 by_cases hi : i < L.length
 ·rw [List.getElem?_eq_getElem hi]; exact h _ (List.getElem_mem hi)
 ·rw [List.getElem?_eq_none (by omega)]; exact zref_wf
def SlRf (w : World) (v : Value) (L : List RefV) : Prop :=
 ∃ a cap, v = .slice a L.length cap ∧ (L ≠ [] → ∃ b o, a = some ⟨b, o, none⟩ ∧ b < w.heap.size ∧ ∀ i, i < L.length → w.rangeAt b (o + i * 34) (refL (L.getD i zref)))
theorem SlRf.nil (w : World) : SlRf w (.slice none 0 0) [] := ⟨none, 0, rfl, fun h => absurd rfl h⟩
theorem SlRf.hd {w : World} {v : Value} {L : List RefV} (h : SlRf w v L) : ∃ a c, v = .slice a L.length c := let ⟨a, c, e, _⟩ := h; ⟨a, c, e⟩
theorem SlRf.hdn {w : World} {v : Value} {L : List RefV} {n : Nat} (h : SlRf w v L) (hn : L.length = n) : ∃ a c, v = .slice a n c := let ⟨a, c, e⟩ := h.hd; ⟨a, c, by rw [e, hn]⟩
theorem range_block {w wr : World} {b o : Nat} {cs : List Value} (h : w.rangeAt b o cs) (hb : wr.heap[b]? = w.heap[b]?) : wr.rangeAt b o cs := fun j v hv => (World.cell?_of_block (w := w) (w' := wr) (a := ⟨b, o + j, none⟩) hb).trans (h j v hv)
theorem SlRf.below {w wr : World} {v : Value} {L : List RefV} (h : SlRf w v L) (hb : Below w.heap.size w wr) : SlRf wr v L := by
 obtain ⟨a, cap, e, hr⟩ := h
 refine ⟨a, cap, e, fun hne => ?_⟩
 obtain ⟨b, o, ea, hlt, hc⟩ := hr hne
 exact ⟨b, o, ea, Nat.lt_of_lt_of_le hlt hb.size, fun i hi => range_block (hc i hi) (hb.block b hlt)⟩
theorem slrf_at {w : World} {a : Option Addr} {n c i : Nat} {L : List RefV} (h : SlRf w (.slice a n c) L) (hn : n = L.length) (hi : i < n) : ∃ b o, a = some ⟨b, o, none⟩ ∧ b < w.heap.size ∧ w.rangeAt b (o + i * 34) (refL (L.getD i zref)) := by
 obtain ⟨a', c', e, hr⟩ := h
 obtain ⟨b, o, ea, hlt, hc⟩ := hr (by intro e0; subst e0; simp at hn; omega)
 injection e with e1 _ _
 subst e1
 exact ⟨b, o, ea, hlt, hc i (by omega)⟩
theorem slrf_cell {w : World} {b o n c i : Nat} {L : List RefV} (h : SlRf w (.slice (some ⟨b, o, none⟩) n c) L) (hn : n = L.length) (hi : i < n) : w.rangeAt b (o + i * 34) (refL (L.getD i zref)) := by
 obtain ⟨b', o', e, _, cx⟩ := slrf_at h hn hi
 injection e with e
 injection e with e2 e3 _
 subst e2 e3
 exact cx
theorem range_pl {w : World} {b o : Nat} {r : RefV} (h : w.rangeAt b o (refL r)) : w.cell? ⟨b, o, none⟩ = some (.int .i64 r.pl) := by
 have := h 0 (.int .i64 r.pl) rfl
 simpa using this
abbrev OwnRf (w : World) (B : Nat) (t : TypeId) (v : Value) (L : List RefV) : Prop := w.ownsRow B t 34 v L.length (refCs L)
theorem own_slrf {w : World} {B : Nat} {t : TypeId} {v : Value} {L : List RefV} (h : OwnRf w B t v L) (hw : ∀ r ∈ L, r.Wf) : SlRf w v L := by
 rcases h.2 with ⟨rfl, h0⟩ | ⟨g, cap, cur, rfl, _, hh, _, _, hs, ht⟩
 ·have : L = [] := List.eq_nil_of_length_eq_zero h0
  subst this
  exact SlRf.nil w
 ·refine ⟨_, _, rfl, fun _ => ⟨g, 0, rfl, (Array.getElem?_eq_some_iff.1 hh).1, fun i hi j u hu => ?_⟩⟩
  have hj : j < 34 := by
   have := (List.getElem?_eq_some_iff.1 hu).1
   rwa [refL_length (getD_wf hw i)] at this
  rw [cell_of_row w g _ cur _ (0, 0) hh, Nat.zero_add]
  have h1 := refCs_get L hw i j hi hj
  rw [← ht, List.getElem?_take, if_pos (by omega), Array.getElem?_toList] at h1
  rw [h1]; exact hu
theorem refL_one (r : RefV) : ∀ u ∈ refL r, u.oneCell' = true := by
 intro u hm
 simp only [refL, List.mem_append, List.mem_cons, List.not_mem_nil, or_false] at hm
 rcases hm with (rfl | rfl) | hm
 all_goals first | rfl | exact u8s_cells _ _ hm
theorem rfRP : (Tryz.prog.info? 69).map (fun i => (i.zero, i.size, i.bytes)) = some (some (.agg (refC zref)), 34, 48) := by kernel_rfl
theorem elemRP : elemR Tryz.prog 42 69 (.agg (refC zref)) 34 48 := ⟨Tryz.underlying42, rfRP⟩
theorem built_rp (r : RefV) (hr : r.Wf) : Tryz.prog.builtSlice 69 1 [(0, .agg (refC r))] = some (refC r) := by
 obtain ⟨p, e, dg⟩ := r
 have h : dg.length = 32 := hr.dg
 match dg, h with
 | [a0, a1, a2, a3, a4, a5, a6, a7, a8, a9, a10, a11, a12, a13, a14, a15, a16, a17, a18, a19, a20, a21, a22, a23, a24, a25, a26, a27, a28, a29, a30, a31], _ => show Program.builtSlice _ _ _ _ = some _; kernel_rfl
theorem rd_rf {w : World} {e : TypeId} {r : RefV} (hr : r.Wf) : RdR (w.alloc (.cells (refC r) e)) 34 (.slice (some ⟨w.heap.size, 0, none⟩) 1 1) 1 (refL r) := by
 have h := rdR_new (w := w) (e := e) (C := refC r)
 rw [refC_size hr] at h
 exact h
end Sha
end Go.Proofs.YtahcjnganedbiaaGreatDoor
namespace Go.Proofs.YtahcjnganedbiaaGreatDoor
namespace Sha
open Go.RowKit Mem
set_option maxRecDepth 100000
theorem layN_few {L : List RefV} (h : L.length < 1 ∨ 6 < L.length) : layN L = ([], 1) := by
 unfold layN
 exact if_pos (by rcases h with h | h; exact .inl h; exact .inr (.inl h))
theorem layN_place {L : List RefV} (i : Nat) (hi : i < L.length) (h : plOk (L.getD i zref) = false) : layN L = ([], 1) := by
 unfold layN
 refine if_pos (.inr (.inr ?_))
 rw [List.all_eq_false]
 have e : L.getD i zref = L[i] := by simp [List.getD_eq_getElem?_getD, hi]
 rw [e] at h
 exact ⟨L[i], List.getElem_mem hi, by rw [h]; decide⟩
theorem layN_good {L : List RefV} (h1 : 1 ≤ L.length) (h6 : L.length ≤ 6) (h : ∀ i, i < L.length → plOk (L.getD i zref) = true) : layN L = (bodyN L L.length ++ List.replicate (256 - (1 + 37 * L.length)) 0, 0) := by
 unfold layN
 refine if_neg (fun hc => ?_)
 rcases hc with hc | hc | hc
 ·omega
 ·omega
 ·rw [List.all_eq_false] at hc
  obtain ⟨r, hr, hp⟩ := hc
  obtain ⟨i, hi, rfl⟩ := List.getElem_of_mem hr
  have e : L.getD i zref = L[i] := by simp [List.getD_eq_getElem?_getD, hi]
  exact hp (by rw [← e]; exact h i hi)
end Sha
end Go.Proofs.YtahcjnganedbiaaGreatDoor
namespace Go.Proofs.YtahcjnganedbiaaGreatDoor
namespace Sha
open Go.RowKit Mem
theorem refCs_set : ∀ (L : List RefV) (i : Nat) (r : RefV), (∀ x ∈ L, x.Wf) → i < L.length → refCs (L.set i r) = (refCs L).take (i * 34) ++ refL r ++ (refCs L).drop (i * 34 + 34) := by
 intro L
 induction L with
 | nil => intro i r _ hi; simp at hi
 | cons x L ih =>
  intro i r h hi
  have hl := refL_length (h x (List.mem_cons_self ..))
  match i with
  | 0 =>
   show refL r ++ refCs L = ([] ++ refL r) ++ (refL x ++ refCs L).drop (0 * 34 + 34)
   rw [List.nil_append, List.drop_append, List.drop_of_length_le (by omega), List.nil_append, hl]
   rfl
  | i + 1 =>
   have e := ih i r (fun y hy => h y (List.mem_cons_of_mem _ hy)) (by simpa using hi)
   show refL x ++ refCs (L.set i r) = (refL x ++ refCs L).take ((i + 1) * 34) ++ refL r ++ (refL x ++ refCs L).drop ((i + 1) * 34 + 34)
   have t1 : (refL x ++ refCs L).take ((i + 1) * 34) = refL x ++ (refCs L).take (i * 34) := by
    rw [List.take_append, hl, List.take_of_length_le (show (refL x).length ≤ (i + 1) * 34 by omega), show (i + 1) * 34 - 34 = i * 34 by omega]
   have d1 : (refL x ++ refCs L).drop ((i + 1) * 34 + 34) = (refCs L).drop (i * 34 + 34) := by
    rw [List.drop_append, hl, List.drop_of_length_le (show (refL x).length ≤ (i + 1) * 34 + 34 by omega), List.nil_append, show (i + 1) * 34 + 34 - 34 = i * 34 + 34 by omega]
   rw [e, t1, d1]
   simp [List.append_assoc]
theorem splice_take (C : Array Value) (o m : Nat) (D : List Value) (h : o + D.length ≤ m) (hm : m ≤ C.size) : (Mem.splice C o D).toList.take m = (C.toList.take m).take o ++ D ++ (C.toList.take m).drop (o + D.length) := by
 have hs : C.toList.length = C.size := by simp
 have hA : (C.toList.take o ++ D).length = o + D.length := by rw [List.length_append, List.length_take, hs]; omega
 unfold Mem.splice
 show (C.toList.take o ++ D ++ C.toList.drop (o + D.length)).take m = _
 rw [List.take_append, hA, List.take_of_length_le (by omega), List.drop_take, List.take_take, Nat.min_eq_left (by omega)]
theorem own_store {w : World} {B i : Nat} {t : TypeId} {v : Value} {L : List RefV} {r : RefV} (h : OwnRf w B t v L) (hw : ∀ x ∈ L, x.Wf) (hr : r.Wf) (hi : i < L.length) :
 ∃ g cap cur, v = .slice (some ⟨g, 0, none⟩) L.length cap ∧ B ≤ g ∧ g < w.heap.size ∧ At w g cur t ∧ i * 34 + 34 ≤ cur.size ∧ OwnRf (w.setRow g (Mem.splice cur (i * 34) (refL r))) B t v (L.set i r) := by
 rcases h.2 with ⟨_, h0⟩ | ⟨g, cap, cur, rfl, hg, hh, hn, hm, hs, ht⟩
 ·omega
 have hrl := refL_length hr
 have hle : i * 34 + 34 ≤ cur.size := by rw [hs]; omega
 refine ⟨g, cap, cur, rfl, hg, (Array.getElem?_eq_some_iff.1 hh).1, hh, hle, ?_, ?_⟩
 ·rw [refCs_length _ (fun x hx => ?_), List.length_set]
  rcases List.mem_or_eq_of_mem_set hx with a | a
  ·exact hw x a
  ·rw [a]; exact hr
 ·refine .inr ⟨g, cap, Mem.splice cur (i * 34) (refL r), ?_, hg, At.row (show At w g cur t from hh) _, ?_, hm, ?_, ?_⟩
  ·rw [List.length_set]
  ·rw [List.length_set]; exact hn
  ·rw [← hs]
   unfold Mem.splice
   simp [hrl]
   omega
  ·rw [List.length_set, splice_take cur (i * 34) (L.length * 34) (refL r) (by rw [hrl]; omega) (by rw [hs]; omega), ht, hrl, refCs_set L i r hw hi]
end Sha
end Go.Proofs.YtahcjnganedbiaaGreatDoor
namespace Go.Proofs.YtahcjnganedbiaaGreatDoor
namespace Sha
open Go.RowKit Mem
set_option maxRecDepth 100000
def r1 : RefV := ⟨1, 0, List.replicate 32 0⟩
end Sha
end Go.Proofs.YtahcjnganedbiaaGreatDoor
namespace Go.Proofs.YtahcjnganedbiaaGreatDoor
namespace Sha
open Go.RowKit Mem
def TwoOwn (w : World) (L : List (BitVec 8)) (n : Int) (e : Ending) (w' : World) : Prop :=
 ∃ g, e = .returned (.tuple #[.slice (some ⟨g, 0, none⟩) L.length L.length, .int .i64 n]) ∧ At w' g (u8s L).toArray 5 ∧ w.heap.size ≤ g ∧ Below w.heap.size w w'
set_option maxRecDepth 100000 in
set_option maxHeartbeats 1000000 in
theorem pnumput_own (b : List (BitVec 8)) (n : Nat) (size : Int) (v : Value) (w : World) (hv : Sl w v b) (hb : b.length ≤ 8000) (hn : n < 18446744073709551616) :
 Calls Tryz.prog 96 #[v, .int .u64 (n : Int), .int .i64 size] w (SEnd w (b ++ nbytes n (cutN size 1 8))) := by
 have hns := fun wx => numSize_any size wx
 have c1 := cutN_lo size 1 8 (by decide)
 have c8 := cutN_hi size 1 8
 obtain ⟨K, hK⟩ : ∃ K, K = cutN size 1 8 := ⟨_, rfl⟩
 rw [← hK] at hns c1 c8 ⊢
 have hle := lengthen_any b K v w (by omega) hv
 obtain ⟨a0, cap, rfl, _, _⟩ := hv
 obtain ⟨m, hm⟩ : ∃ m, m = b.length := ⟨_, rfl⟩
 have hlen : (b ++ List.replicate K 0).length = m + K := by simp [hm]
 have hlen2 : (b ++ nbytes n K).length = m + K := by simp [hm, nbytes_length]
 have hpn := fun g wx h => putNum_any b n g m K K wx hm hn c1 c8 (Nat.le_refl _) h
 rw [← hm] at hle hb ⊢
 have NS := zh hns; have LE := zh hle; have HL := zh hlen; have HL2 := zh hlen2; have PN := zh hpn
 clear hns hle hlen hlen2 hpn hm hK
 go_enter Tryz.func96, Tryz.ntmps96
 go_wp2_with fail
 refine (NS.out _).mono ?_
 rintro o w' ⟨rfl, rfl⟩
 go_wp2_with fail
 refine LE.out.mono ?_
 rintro o w2 ⟨g, rfl, ha, hg, hb2⟩
 rw [HL.out]
 have HA := zh ha; have HG := zh hg; have HB := zh hb2
 clear ha hg hb2 LE NS
 go_wp2_with (refine wpList_slice_low zr 36 _ _ zr 5 Tryz.underlying36 infoB (some ⟨g, 0, none⟩) (m + K) (m + K) m zr zr (by omega) ?_; intro a1 h1; have e1 := h1 g 0 rfl (by omega); subst e1; clear h1; rw [Nat.add_sub_cancel_left, Nat.zero_add])
 refine (PN.out g w2 HA.out).mono ?_
 rintro o w3 ⟨rfl, ha3, hk3⟩
 have HA3 := zh ha3; have HB3 := zh (hk3 _ _ HB.out HG.out)
 clear ha3 hk3
 go_wp2_with fail
 go_ret
 exact ⟨g, by rw [HL2.out]; rfl, HA3.out, HG.out, HB3.out⟩
theorem own_fulls {w : World} {B g : Nat} {L : List (BitVec 8)} (h : At w g (u8s L).toArray 5) (hB : B ≤ g) (hl : L.length ≤ 100000) : OwnB w B (.slice (some ⟨g, 0, none⟩) L.length L.length) L :=
 ⟨by simp [u8s_length], .inr ⟨g, L.length, (u8s L).toArray, rfl, hB, h, Nat.le_refl _, by simp [maxLen]; omega, by simp [u8s_length], by rw [List.take_of_length_le (by simp [u8s_length])]⟩⟩
theorem num1_any (b : List (BitVec 8)) (n : Nat) (v : Value) (w : World) (hv : Sl w v b) (hb : b.length ≤ 8000) (hn : n < 18446744073709551616) : Calls Tryz.prog 96 #[v, .int .u64 (n : Int), .int .i64 1] w (SEnd w (b ++ nbytes n 1)) := pnumput_own b n 1 v w hv hb hn
theorem num4_any (b : List (BitVec 8)) (n : Nat) (v : Value) (w : World) (hv : Sl w v b) (hb : b.length ≤ 8000) (hn : n < 18446744073709551616) : Calls Tryz.prog 96 #[v, .int .u64 (n : Int), .int .i64 4] w (SEnd w (b ++ nbytes n 4)) := pnumput_own b n 4 v w hv hb hn
def lv (b : List (BitVec 8)) (e : Nat) : List (BitVec 8) := if e = 0 then b else []
def LB (br : Nat) (a : Option Addr) (l : List (BitVec 8)) : Prop := l ≠ [] → ∀ p, a = some p → p.block < br
structure RPk (w : World) (br : Nat) (b : List (BitVec 8)) (e : Nat) : Prop where
 h3 : ∃ a cap, At w br (rdRow (.slice a (lv b e).length cap) e) 243 ∧ Sl w (.slice a (lv b e).length cap) (lv b e) ∧ LB br a (lv b e)
theorem RPk.h {w : World} {br : Nat} {b : List (BitVec 8)} {e : Nat} (h : RPk w br b e) : ∃ a cap, At w br (rdRow (.slice a (lv b e).length cap) e) 243 ∧ Sl w (.slice a (lv b e).length cap) (lv b e) := by
 obtain ⟨a, cap, h1, h2, _⟩ := h.h3
 exact ⟨a, cap, h1, h2⟩
theorem RPk.below {w w' : World} {br : Nat} {b : List (BitVec 8)} {e : Nat} (h : RPk w br b e) (hb : Below w.heap.size w w') : RPk w' br b e := by
 obtain ⟨a, cap, h1, h2, h3⟩ := h.h3
 exact ⟨a, cap, h1.below hb h1.lt, h2.below hb, h3⟩
theorem RPk.but {w w' : World} {br bx : Nat} {b : List (BitVec 8)} {e : Nat} {C : Array Value} {t : TypeId} (h : RPk w br b e) (hC : At w bx C t) (hno : ∀ (k : Nat) (x : Int), C[k]? ≠ some (.int .u8 x)) (hne : br ≠ bx) (hb : But bx w w') : RPk w' br b e := by
 obtain ⟨a, cap, h1, h2, h3⟩ := h.h3
 exact ⟨a, cap, h1.but hb hne, h2.but_at hC hno hb, h3⟩
theorem RPk.above {w w' : World} {br bx : Nat} {b : List (BitVec 8)} {e : Nat} (h : RPk w br b e) (hb : But bx w w') (hne : br < bx) : RPk w' br b e := by
 obtain ⟨a, cap, h1, h2, h3⟩ := h.h3
 refine ⟨a, cap, h1.but hb (by omega), ?_, h3⟩
 obtain ⟨a2, cap2, e2, hc, hr⟩ := h2
 injection e2 with e2 _ e4
 subst e2; subst e4
 refine ⟨a, cap, rfl, hc, fun hl => ?_⟩
 obtain ⟨bb, oo, ea, hlt, hcell⟩ := hr hl
 have hlt2 := h3 hl _ ea
 refine ⟨bb, oo, ea, Nat.lt_of_lt_of_le hlt hb.size, fun i hi => ?_⟩
 rw [World.cell?_of_block (w := w) (w' := w') (a := ⟨bb, oo + i, none⟩) (hb.block bb hlt (by simp only at hlt2; omega))]
 exact hcell i hi
theorem RPk.keep {w w' : World} {br : Nat} {b l : List (BitVec 8)} {e : Nat} {v : Value} (h : RPk w br b e) (hb : But br w w') (hs : Sl w v l) : Sl w' v l := by
 obtain ⟨a, cap, h1, _⟩ := h.h
 exact hs.but_at h1 (rdRow_no _ _ _ _) hb
theorem RPk.lt {w : World} {br : Nat} {b : List (BitVec 8)} {e : Nat} (h : RPk w br b e) : br < w.heap.size := by
 obtain ⟨a, cap, h1, _⟩ := h.h
 exact h1.lt
theorem nb1_int (z : Int) (m : Nat) (hm : (m : Int) = z % 18446744073709551616) : nbytes m 1 = [BitVec.ofInt 8 z] := by
 have e : nbyte m 0 = BitVec.ofInt 8 z := by
  apply BitVec.eq_of_toNat_eq
  unfold nbyte
  rw [BitVec.toNat_ofNat, BitVec.toNat_ofInt]
  omega
 simp [nbytes, List.range_succ, e]
theorem nb4_le4 (x : BitVec 32) : nbytes x.toNat 4 = le4 x := by
 have e : ∀ i, nbyte x.toNat i = wb x (8 * i) := fun i => by
  apply BitVec.eq_of_toNat_eq
  unfold nbyte wb
  rw [BitVec.toNat_ofNat, BitVec.toNat_setWidth, BitVec.toNat_ushiftRight, Nat.shiftRight_eq_div_pow, Nat.pow_mul]
 simp [nbytes, le4, List.range_succ, e]
theorem conv_iu64 (z : Int) (m : Nat) (hm : (m : Int) = z % 18446744073709551616) (w : World) : (convert 3 169 (.int .i64 z)).run Tryz.prog w = .ok (.int .u64 (m : Int)) w := by
 have h2 : IntKind.u64.wrap z = (m : Int) := by rw [IntKind.wrap_u64, hm]
 go_simp
theorem conv_u3264 (x : BitVec 32) (w : World) : (convert 62 169 (.int .u32 (V x))).run Tryz.prog w = .ok (.int .u64 ((x.toNat : Nat) : Int)) w := by
 have hx := x.isLt
 have h2 : IntKind.u64.wrap (V x) = ((x.toNat : Nat) : Int) := by
  rw [IntKind.wrap_u64]
  show (x.toNat : Int) % _ = _
  omega
 go_simp
set_option maxRecDepth 100000 in
set_option maxHeartbeats 4000000 in
theorem play9_any (r : RefV) (hr : r.Wf) (w : World) : Calls Tryz.prog 98 #[.agg (refC r)] w (RSEnd w (layRf r)) := by
 have r0 := ref0 r
 have r1 := ref1 r
 have an := at_new w (refC r) 69
 have bn : Below w.heap.size w (w.alloc (.cells (refC r) 69)) := (Below.refl _ _).alloc (Nat.le_refl _) _
 have sd := fun (wx : World) (g : Nat) (h : At wx g (refC r) 69) => sl_dg h hr
 have hdl := hr.dg
 obtain ⟨m, hm⟩ : ∃ m : Nat, (m : Int) = r.pl % 18446744073709551616 := ⟨(r.pl % 18446744073709551616).toNat, by omega⟩
 have hml : m < 18446744073709551616 := by omega
 have cv0 := fun wx => conv_iu64 r.pl m hm wx
 have cv1 := fun wx => conv_u3264 r.ep wx
 obtain ⟨M1, hM1⟩ : ∃ M, M = ([] : List (BitVec 8)) ++ nbytes m 1 := ⟨_, rfl⟩
 have ln1 : M1.length = 1 := by rw [hM1, List.length_append, nbytes_length]; rfl
 have nu1 : ∀ v wx, Sl wx v ([] : List (BitVec 8)) → Calls Tryz.prog 96 #[v, .int .u64 (m : Int), .int .i64 1] wx (SEnd wx M1) := fun v wx hs => by rw [hM1]; exact num1_any _ _ v wx hs (by decide) hml
 obtain ⟨M2, hM2⟩ : ∃ M, M = M1 ++ nbytes r.ep.toNat 4 := ⟨_, rfl⟩
 have ln2 : M2.length = 5 := by rw [hM2, List.length_append, nbytes_length, ln1]
 have nu2 : ∀ v wx, Sl wx v M1 → Calls Tryz.prog 96 #[v, .int .u64 ((r.ep.toNat : Nat) : Int), .int .i64 4] wx (SEnd wx M2) := fun v wx hs => by rw [hM2]; exact num4_any _ _ v wx hs (by rw [ln1]; decide) (by have := r.ep.isLt; omega)
 have hlay : M2 ++ r.dg = layRf r := by rw [hM2, hM1, nb1_int r.pl m hm, nb4_le4, layRf, List.nil_append]
 obtain ⟨M, hM⟩ : ∃ M, M = refC r := ⟨_, rfl⟩
 rw [← hM] at r0 r1 an bn sd ⊢
 have c0 : (w.alloc (.cells M 69)).cell? ⟨w.heap.size, 0, none⟩ = some (.int .i64 r.pl) := (an.cell 0).trans r0
 have AN := zh an; have BN := zh bn; have SD := zh sd; have DL := zh hdl; have CV0 := zh cv0; have CV1 := zh cv1; have LN1 := zh ln1; have NU1 := zh nu1; have LN2 := zh ln2; have NU2 := zh nu2; have HL := zh hlay; have R1 := zh r1
 clear r0 r1 an bn sd hdl cv0 cv1 ln1 nu1 ln2 nu2 hlay hM hM1 hM2 hm hml hr
 obtain ⟨pl, hpl⟩ : ∃ pl, pl = r.pl := ⟨_, rfl⟩
 rw [← hpl] at c0 CV0
 obtain ⟨ep, hep⟩ : ∃ ep, ep = r.ep := ⟨_, rfl⟩
 rw [← hep] at R1 CV1 NU2
 clear hpl hep
 obtain ⟨e4, he4⟩ : ∃ e4, e4 = ep.toNat := ⟨_, rfl⟩
 rw [← he4] at CV1 NU2
 clear he4
 go_enter Tryz.func98, Tryz.ntmps98
 go_upto_region 1 with fail
 obtain ⟨g0, hg0⟩ : ∃ g, g = w.heap.size := ⟨_, rfl⟩
 rw [← hg0] at AN c0 ⊢
 have HG := zh hg0
 clear hg0
 generalize w.alloc (.cells M 69) = w1 at *
 go_wp2_with (refine wpList_conv zr _ _ _ _ (.int .u64 (m : Int)) zr zr CV0.out ?_)
 refine (NU1.out _ _ (sl_none _)).mono ?_
 rintro e w3 ⟨g, rfl, ha, hg, hb⟩
 have B3 : Hid (Below w1.heap.size w1 w3) := zh hb
 have A3 := zh (AN.out.below hb AN.out.lt)
 have S3 := zh (at_sl ha rfl)
 rw [LN1.out]
 rw [LN1.out] at S3
 clear c0 ha hg hb
 have cc : w3.cell? ⟨g0, 1, none⟩ = some (.int .u32 (V ep)) := (A3.out.cell 1).trans R1.out
 go_wp2_with (refine wpList_conv zr _ _ _ _ (.int .u64 (e4 : Int)) zr zr CV1.out ?_)
 refine (NU2.out _ _ S3.out).mono ?_
 rintro e w4 ⟨g4, rfl, ha, hg, hb⟩
 have B4 : Hid (Below w1.heap.size w1 w4) := zh (B3.out.trans (hb.mono B3.out.size))
 have A4 := zh (A3.out.below hb A3.out.lt)
 have O4 : Hid (OwnB w4 w1.heap.size (.slice (some ⟨g4, 0, none⟩) 5 5) M2) := zh (by have h := own_fulls ha (Nat.le_trans B3.out.size hg) (by rw [LN2.out]; decide); rw [LN2.out] at h; exact h)
 rw [LN2.out]
 clear cc ha hg hb S3
 go_wp2_with (first
  | (refine wpList_slice_arr zr 61 _ zr 32 5 g0 2 zr Tryz.underlying61 infoB ?_)
  | (at_builtin; go_loud (refine wpList_append_bytes zr _ _ zr w1.heap.size (.slice (some ⟨g4, 0, none⟩) 5 5) (.slice (some ⟨g0, 2, none⟩) 32 32) M2 r.dg zr O4.out zr (SD.out w4 g0 A4.out) (by rw [LN2.out, DL.out]; decide) B4.out.size ?_); intro v9 w9 ho9 _ hb9; have O9 := zh ho9; have B9 := zh (B4.out.trans hb9); clear ho9 hb9))
 go_ret
 exact ⟨_, rfl, by rw [← HL.out]; exact O9.out.sl, BN.out.trans (B9.out.mono BN.out.size)⟩
end Sha
end Go.Proofs.YtahcjnganedbiaaGreatDoor
namespace Go.Proofs.YtahcjnganedbiaaGreatDoor
namespace Sha
open Go.RowKit Mem
structure PInv9 (w : World) (br bx : Nat) (Z C : Array Value) (b : List (BitVec 8)) (e : Nat) (W : World) : Prop where
 r : RPk W br b e
 ar : At W w.heap.size Z 69
 ag : At W bx C 69
 l : Below w.heap.size w W
section
variable {w W W' : World} {br bx : Nat} {Z C C' : Array Value} {b b' : List (BitVec 8)} {e e' : Nat}
theorem PInv9.call (h : PInv9 w br bx Z C b e W) (h1 : w.heap.size < br) (h2 : br < bx) (hp : PkEnd RPk W br b' e' W') : PInv9 w br bx Z C b' e' W' :=
 ⟨hp.r, h.ar.but hp.o (by omega), h.ag.but hp.o (by omega), hp.k _ _ h.l (by omega)⟩
theorem PInv9.store (h : PInv9 w br bx Z C b e W) (h1 : w.heap.size < br) (h2 : br < bx) (ha : At W' bx C' 69) (ho : ∀ k, k ≠ bx → W'.heap[k]? = W.heap[k]?) (hk : ∀ B x, Below B x W → B ≤ bx → Below B x W') : PInv9 w br bx Z C' b e W' := by
 have hs : W.heap.size ≤ W'.heap.size := (hk _ _ (Below.refl bx W) (Nat.le_refl _)).size
 have hb : But bx W W' := ⟨hs, fun k _ hne => ho k hne⟩
 exact ⟨h.r.above hb h2, h.ar.but hb (by omega), ha, hk _ _ h.l (by omega)⟩
theorem PInv9.drew (h : PInv9 w br bx Z C b e W) : PInv9 w br bx Z C b e W.drew :=
 ⟨h.r.below (Below.refl _ _).drew, h.ar.below (Below.refl _ _).drew h.ar.lt, h.ag.below (Below.refl _ _).drew h.ag.lt, h.l.drew⟩
end
end Sha
end Go.Proofs.YtahcjnganedbiaaGreatDoor
namespace Go.Proofs.YtahcjnganedbiaaGreatDoor
namespace Sha
open Go.RowKit Mem
set_option maxRecDepth 100000 in
set_option maxHeartbeats 1000000 in
theorem pfill_own (b : List (BitVec 8)) (size : Nat) (v : Value) (w : World) (hv : Sl w v b) (hle : b.length ≤ size) (hs : size ≤ 8000) : Calls Tryz.prog 99 #[v, .int .i64 (size : Int)] w (TwoOwn w (fillB b size) 0) := by
 have hl := lengthen_any b (size - b.length) v w (by omega) hv
 rw [show ((size - b.length : Nat) : Int) = (size : Int) - (b.length : Int) by omega] at hl
 obtain ⟨a0, cap, rfl, _, _⟩ := hv
 obtain ⟨m, hm⟩ : ∃ m, m = b.length := ⟨_, rfl⟩
 unfold fillB
 rw [← hm] at hle hl ⊢
 have g1 : ¬ (size : Int) < (m : Int) := by omega
 have g2 : ¬ (2147483647 : Int) < (size : Int) := by omega
 have LE := zh hl
 clear hl hm
 go_enter Tryz.func99, Tryz.ntmps99
 go_wp2_with fail
 refine LE.out.mono ?_
 rintro o w2 ⟨g, rfl, ha, hg, hb2⟩
 have HA := zh ha; have HB := zh hb2; have HG := zh hg
 clear ha hb2 hg LE
 go_wp2_with fail
 go_ret2
 exact ⟨g, by rw [List.length_append, List.length_replicate]; rfl, HA.out, HG.out, HB.out⟩
end Sha
end Go.Proofs.YtahcjnganedbiaaGreatDoor
namespace Go.Proofs.YtahcjnganedbiaaGreatDoor
namespace Sha
open Go.ChangeShapes Go.WideShapes Go.ChangeAt Go.WideMaps Go.WideElems Go.RowKit Mem
set_option maxRecDepth 100000
theorem cW : Tryz.prog.cellsOf 62 = 1 := by kernel_rfl
theorem cI : Tryz.prog.cellsOf 3 = 1 := by kernel_rfl
theorem word_of {n : Int} (h : (Lit.int .u32 n).wf = true) : ∃ x : BitVec 32, n = V x := by
 simp [Lit.wf, IntKind.min, IntKind.max, IntKind.signed, IntKind.bits] at h
 exact ⟨BitVec.ofNat 32 n.toNat, by show n = ((BitVec.ofNat 32 n.toNat).toNat : Int); rw [BitVec.toNat_ofNat]; omega⟩
theorem ref_of {H : Type} {enc : TypeId × Value → H} {W : World} {n : Nat} {cs : List Value} {y : DataW H × List MemPlace} (hf : DataW.trod enc Tryz.prog W 0 (fun _ => true) true n 64 cs = some y) : ∃ r : RefV, r.Wf ∧ cs = refL r := by
 obtain ⟨_, _, _, _, hl, _, _⟩ := DataW.trod_struct Tryz.underlying64 hf
 rw [show Tryz.prog.cellsOf 64 = 34 by kernel_rfl] at hl
 obtain ⟨y0, y1, y2, m, _, _, h0, h1, h2⟩ := Deep.trod_struct3 Tryz.underlying64 hf
 have c32 : Tryz.prog.cellsOf 61 = 32 := by kernel_rfl
 simp only at h0 h1 h2
 rw [cI] at h0; rw [cW] at h1; rw [c32] at h2
 obtain ⟨z0, ez0, _, wz0⟩ := DataW.trod_int Tryz.underlying3 h0
 obtain ⟨z1, ez1, _, wz1⟩ := DataW.trod_int Tryz.underlying62 h1
 obtain ⟨ep, rfl⟩ := word_of wz1
 obtain ⟨dg, ek, lk⟩ := open_bytes_in Tryz.underlying61 c32 h2
 simp [Lit.wf, IntKind.min, IntKind.max, IntKind.signed, IntKind.bits] at wz0
 refine ⟨⟨z0, ep, dg⟩, ⟨by show _ ≤ z0; omega, by show z0 ≤ _; omega, lk⟩, ?_⟩
 have d1 : cs = cs.take 1 ++ cs.drop 1 := (List.take_append_drop 1 _).symm
 have d2 : cs.drop 1 = (cs.drop 1).take 1 ++ (cs.drop 1).drop 1 := (List.take_append_drop 1 _).symm
 have d4 : (cs.drop 2).take 32 = cs.drop 2 := List.take_of_length_le (by rw [List.length_drop]; omega)
 rw [List.drop_drop] at d2
 rw [List.drop_zero] at ez0
 rw [d1, d2, ← d4, ez0, ez1, ek]; rfl
end Sha
end Go.Proofs.YtahcjnganedbiaaGreatDoor
