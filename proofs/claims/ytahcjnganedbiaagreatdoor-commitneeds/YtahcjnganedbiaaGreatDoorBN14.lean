/- My own texts, merged. -/
import Derived.Test.YtahcjnganedbiaaGreatDoorBN09
import Derived.Test.YtahcjnganedbiaaGreatDoorBN00
import Derived.Test.YtahcjnganedbiaaGreatDoorBN05
import Derived.Laws.Tables
import Derived.Test.YtahcjnganedbiaaGreatDoorBN08
import Derived.Test.YtahcjnganedbiaaGreatDoorBN02
import Derived.Test.YtahcjnganedbiaaGreatDoorBNMV
namespace Go.Proofs.YtahcjnganedbiaaGreatDoor
namespace Sha
open Go.RowKit Mem
theorem infoDg : (Tryz.prog.info? 61).map (·.size) = some 32 := by kernel_rfl
theorem sizeB1 (w : World) : (sizeOf 5).run Tryz.prog w = .ok 1 w := by kernel_rfl
set_option maxRecDepth 10000 in
theorem eq32 (d : Nat) (l m : List (BitVec 8)) (hl : l.length = 32) (hm : m.length = 32) (w : World) : (Op.equalIn (d + 2) 61 (.agg (u8s l).toArray) (.agg (u8s m).toArray)).run Tryz.prog w = .ok (l == m) w := by
 have e1 : ∀ k : List (BitVec 8), u8s k = (k.map fun x => (x.toNat : Int)).map (Value.int .u8) := fun k => by simp [u8s]
 have h := run_equalIn_ints (P := Tryz.prog) w d 61 5 .u8 32 Tryz.underlying61 Tryz.underlying5 sizeB1 (l.map fun x => (x.toNat : Int)) (m.map fun x => (x.toNat : Int)) (by simpa using hl) (by simpa using hm)
 rw [e1, e1, h]
 congr 1
 rw [Bool.eq_iff_iff, beq_iff_eq, beq_iff_eq]
 exact (List.map_inj_right (fun a b h => by apply BitVec.eq_of_toNat_eq; omega)).trans Iff.rfl
structure RefV where
 pl : Int
 ep : BitVec 32
 dg : List (BitVec 8)
structure RefV.Wf (r : RefV) : Prop where
 p0 : -9223372036854775808 ≤ r.pl
 p1 : r.pl ≤ 9223372036854775807
 dg : r.dg.length = 32
def refL (r : RefV) : List Value := [.int .i64 r.pl, .int .u32 (V r.ep)] ++ u8s r.dg
def refC (r : RefV) : Array Value := (refL r).toArray
theorem refC_size {r : RefV} (h : r.Wf) : (refC r).size = 34 := by simp [refC, refL, u8s_length, h.dg]
theorem refC_one (r : RefV) : (refC r).all (·.oneCell') = true := by
 rw [Array.all_eq_true]
 intro i hi
 have hm : (refC r)[i] ∈ refL r := by
  have h : (refC r)[i] ∈ refC r := Array.getElem_mem hi
  exact Array.mem_toList_iff.2 h
 generalize (refC r)[i] = u at hm
 simp only [refL, List.mem_append, List.mem_cons, List.not_mem_nil, or_false] at hm
 rcases hm with (rfl | rfl) | hm
 all_goals first | rfl | exact u8s_cells _ _ hm
theorem ref0 (r : RefV) : (refC r)[0]? = some (.int .i64 r.pl) := by simp [refC, refL]
theorem ref1 (r : RefV) : (refC r)[1]? = some (.int .u32 (V r.ep)) := by simp [refC, refL]
theorem ref_dg {r : RefV} (h : r.Wf) (i : Nat) (hi : i < 32) : (refC r)[2 + i]? = some (.int .u8 ((r.dg.getD i 0).toNat : Int)) := by
 have e := u8s_get r.dg i (by rw [h.dg]; exact hi)
 rw [← e]
 simp only [refC, refL, List.getElem?_toArray]
 rw [List.getElem?_append_right (by simp)]
 simp
theorem ref_dgRow {r : RefV} (h : r.Wf) : (refC r).extract 2 (2 + 32) = (u8s r.dg).toArray := by
 apply Array.ext'
 simp [refC, refL]
 exact List.take_of_length_le (by rw [u8s_length, h.dg]; exact Nat.le_refl _)
def zref : RefV := ⟨0, 0, List.replicate 32 0⟩
theorem zref_wf : zref.Wf := ⟨by decide, by decide, by decide⟩
theorem V_inj {x y : BitVec 32} (h : V x = V y) : x = y := by
 apply BitVec.eq_of_toNat_eq
 have : (x.toNat : Int) = (y.toNat : Int) := h
 omega
def sameRef (a b : RefV) : Bool := (a.pl == b.pl) && ((V a.ep == V b.ep) && (a.dg == b.dg))
theorem sameRef_iff (a b : RefV) : sameRef a b = true ↔ a = b := by
 obtain ⟨p, e, d⟩ := a
 obtain ⟨p', e', d'⟩ := b
 simp only [sameRef, Bool.and_eq_true, beq_iff_eq, RefV.mk.injEq]
 exact ⟨fun ⟨h1, h2, h3⟩ => ⟨h1, V_inj h2, h3⟩, fun ⟨h1, h2, h3⟩ => ⟨h1, by rw [h2], h3⟩⟩
theorem sameRef_self (a : RefV) : sameRef a a = true := (sameRef_iff a a).2 rfl
def layRf (r : RefV) : List (BitVec 8) := [BitVec.ofInt 8 r.pl] ++ le4 r.ep ++ r.dg
theorem layRf_length {r : RefV} (h : r.Wf) : (layRf r).length = 37 := by simp [layRf, le4, h.dg]
end Sha
end Go.Proofs.YtahcjnganedbiaaGreatDoor
namespace Go.Proofs.YtahcjnganedbiaaGreatDoor
namespace Sha
open Go.RowKit Mem Go.Maps Go.Sort Go.Shelf
theorem pSorts (m : Nat) : AnyZI.SortsIn Tryz.prog lSorted_ren Fence.wide m :=
 ⟨fun blk off cap ss W hH hblk hsz => callsIn_wide.2 (AnyM.slices_Sort_int lSort blk off cap ss W hH hblk hsz),
  fun p cap W => callsIn_wide.2 (AnyM.slices_Sort_int_none lSort p cap W)⟩
def sortI (l : List Int) : List Int := l.mergeSort (fun x y => decide (x ≤ y))
theorem sortI_sorted {l : List Int} (h : l.Pairwise (· ≤ ·)) : sortI l = l := List.mergeSort_of_pairwise (h.imp fun h => decide_eq_true h)
theorem uInt16 : Tryz.prog.underlying 3 = some (.int .i64) := Tryz.underlying3
theorem pKeysI_any (mb : Option Nat) (W : World) : Calls Tryz.prog 33 #[.map mb] W fun e w' => e = .returned (.func (.func 67) #[] #[.pointer (some ⟨W.heap.size, 0, none⟩)]) ∧ w' = W.alloc (.cells #[.map mb] 94) :=
 (callsIn_wide (n := 5)).1 (AnyZI.keys_in lKeys Fence.wide 5 trivial rfl mb W)
set_option maxRecDepth 100000 in
set_option maxHeartbeats 1000000 in
theorem pSortedI_any {w : World} {bm n : Nat} {f : Int → Option Value} {ks : List Int} (h : MapV w Tryz.prog 3 bm n f) (hnd : ks.Nodup) (hm : ∀ x, x ∈ ks ↔ (f x).isSome = true) (hl : ks.length ≤ 100000) :
 Calls Tryz.prog 32 #[.func (.func 67) #[] #[.pointer (some ⟨w.heap.size, 0, none⟩)]] (w.alloc (.cells #[.map (some bm)] 94)) fun e w' => ∃ v, e = .returned v ∧ OwnV w' w.heap.size 3 v (iz (sortI ks)) ∧ Below w.heap.size w w' := by
 obtain ⟨D0, hown, hperm, hsz⟩ := h.keys uInt16 hnd hm
 have hmax : Maps.size D0 ≤ maxLen := by rw [hsz]; unfold maxLen; omega
 have hbytes : Maps.size D0 * 8 ≤ 140737488355328 := by rw [hsz]; omega
 have hbl := hown.lt
 have hseq : SeqGives Fence.wide 2 Tryz.prog 67 #[.pointer (some ⟨w.heap.size, 0, none⟩)] encZ (fun ss => ss.Perm (intKeys D0)) (Maps.size D0) (w.alloc (.cells #[.map (some bm)] 94)) :=
  AnyZI.keys_gives (ρ := lKeys_ren) { lKeys with } Fence.wide _ trivial rfl (by omega) w.heap.size bm n D0 _ (by simp) (by simp) (by
   obtain ⟨es, clock, hb, Ft, hs, hD⟩ := hown
   exact ⟨es, clock, (Below.heap_alloc _ _ bm hbl).trans hb, Ft, hs, hD⟩)
 have cS := AnyZI.sorted_in lSorted Fence.wide 5 trivial trivial trivial trivial rfl (by omega) (pSorts _) (enters_of Tryz.func66 (by kernel_rfl) rfl) 67 #[.pointer (some ⟨w.heap.size, 0, none⟩)] trivial (enters_of Tryz.func67 (by kernel_rfl) rfl) _ _ hmax hbytes _ hseq
 change CallsIn _ _ Tryz.prog 32 _ _ _ at cS
 refine (callsIn_wide.1 cS).mono ?_
 rintro e w' ⟨v9, ss, rfl, hS, hrow, _, hb⟩
 have e1 : ss.mergeSort (fun x y => decide (x ≤ y)) = sortI ks := mergeSort_of_perm_i (hS.trans hperm.symm)
 have e2 : ss.length = (sortI ks).length := by rw [← e1]; simp
 rw [e1, e2] at hrow
 refine ⟨v9, rfl, ?_, ((Below.refl _ w).alloc (Nat.le_refl _) _).trans (hb.mono (by simp))⟩
 show World.ownsRow _ w.heap.size 3 1 _ (iz (sortI ks)).length (iz (sortI ks))
 rw [iz_length]
 exact ownsRow_base_a hrow (by simp)
end Sha
end Go.Proofs.YtahcjnganedbiaaGreatDoor
namespace Go.Proofs.YtahcjnganedbiaaGreatDoor
namespace Sha
open Go.ChangeShapes Go.WideShapes Go.ChangeAt Go.WideMaps Go.WideElems Go.RowKit Mem
set_option maxRecDepth 100000
theorem byte_of {n : Int} (h : (Lit.int .u8 n).wf = true) : ∃ x : BitVec 8, n = (x.toNat : Int) := by
 have h2 := h
 simp [Lit.wf, IntKind.min, IntKind.max, IntKind.signed, IntKind.bits] at h2
 refine ⟨BitVec.ofNat 8 n.toNat, ?_⟩
 rw [BitVec.toNat_ofNat]
 omega
theorem bytes_of : ∀ (zs : List Int), (∀ n ∈ zs, (Lit.int .u8 n).wf = true) → ∃ l : List (BitVec 8), zs = l.map fun x => (x.toNat : Int)
 | [], _ => ⟨[], rfl⟩
 | z :: zs, h => by
  obtain ⟨x, hx⟩ := byte_of (h z (by simp))
  obtain ⟨l, hl⟩ := bytes_of zs (fun n hn => h n (by simp [hn]))
  exact ⟨x :: l, by simp [hx, hl]⟩
theorem cB : Tryz.prog.cellsOf 5 = 1 := by kernel_rfl
theorem cS : Tryz.prog.cellsOf 36 = 1 := by kernel_rfl
theorem sl_of {w : World} {a : Addr} {len : Nat} (cap : Nat) {zs : List Int} (hl : len ≤ cap) (hz : len ≤ zs.length) (hcell : ∀ i, i < zs.length → w.cell? (a.add i) = some (.int .u8 (zs.getD i 0))) (hwz : ∀ n ∈ zs, (Lit.int .u8 n).wf = true) :
 ∃ l, Sl w (.slice (some a) len cap) l ∧ l.length = len := by
 obtain ⟨l, rfl⟩ := bytes_of zs hwz
 have hz' : len ≤ l.length := by simpa using hz
 have hlen : (l.take len).length = len := by simp; omega
 refine ⟨l.take len, ⟨some a, cap, by rw [hlen], by rw [hlen]; exact hl, fun hne => ?_⟩, hlen⟩
 have hp : 0 < len := by
  rcases Nat.eq_zero_or_pos len with h | h
  ·subst h; simp at hne
  ·exact h
 have h0 := hcell 0 (by simp; omega)
 obtain ⟨b, o, ln⟩ := a
 have hsp : ln = none := by simpa [Addr.add] using World.cell?_spot h0
 subst hsp
 refine ⟨b, o, rfl, ?_, fun i hi => ?_⟩
 ·rw [Addr.add_mid] at h0
  exact block_lt_of_cell h0
 ·rw [hlen] at hi
  have h1 := hcell i (by simp; omega)
  rw [Addr.add_mid] at h1
  rw [h1]
  simp [List.getD_eq_getElem?_getD, hi, show i < l.length by omega]
theorem sl_nil (w : World) (cap : Nat) : Sl w (.slice none 0 cap) [] := ⟨none, cap, rfl, by simp, fun h => absurd rfl h⟩
theorem open_sl_in {H : Type} {enc : TypeId × Value → H} {W : World} {n : Nat} {v : Value} {y : DataW H × List MemPlace} (hf : DataW.trod enc Tryz.prog W 0 (fun _ => true) true n 36 [v] = some y) :
 ∃ l, Sl W v l ∧ l.length ≤ 9223372036854775807 := by
 rcases open_ints Tryz.underlying36 Tryz.underlying5 cB hf with ⟨hcs, _⟩ | ⟨a, len', cap', zs, hcs, _, hl, hm, hz, _, hcell, hwz⟩
 ·simp at hcs
  subst hcs
  exact ⟨[], sl_nil _ _, by simp⟩
 ·simp at hcs
  subst hcs
  simp only [if_true] at hz
  obtain ⟨l, h1, h2⟩ := sl_of cap' hl (by rw [hz]; exact hl) hcell hwz
  refine ⟨l, h1, ?_⟩
  unfold maxLen at hm
  omega
theorem open_bytes_in {H : Type} {enc : TypeId × Value → H} {W : World} {m n : Nat} {t : TypeId} {cs : List Value} {y : DataW H × List MemPlace} (hu : Tryz.prog.underlying t = some (.array n 5)) (hc : Tryz.prog.cellsOf t = n)
 (hf : DataW.trod enc Tryz.prog W 0 (fun _ => true) true m t cs = some y) : ∃ l : List (BitVec 8), cs = u8s l ∧ l.length = n := by
 obtain ⟨xs, m', _, _, hl, hx, he⟩ := DataW.trod_array hu hf
 rw [hc] at hl
 have each : ∀ i, i < n → ∃ b : BitVec 8, cs[i]? = some (.int .u8 (b.toNat : Int)) := fun i hi => by
  have h := he i hi
  rw [cB, Nat.mul_one, List.getElem?_eq_getElem (by omega)] at h
  obtain ⟨k, hk, _, hw⟩ := DataW.trod_int Tryz.underlying5 h
  obtain ⟨b, rfl⟩ := byte_of hw
  refine ⟨b, ?_⟩
  have h0 : ((cs.drop i).take 1)[0]? = some (.int .u8 (b.toNat : Int)) := by rw [hk]; rfl
  simpa [List.getElem?_take, List.getElem?_drop] using h0
 obtain ⟨f, hff⟩ := Deep.choose_lt each
 refine ⟨(List.range n).map f, ?_, by simp⟩
 apply List.ext_getElem?
 intro i
 by_cases hi : i < n
 ·rw [hff i hi]; simp [u8s, hi]
 ·rw [List.getElem?_eq_none (by omega), List.getElem?_eq_none (by simp [u8s]; omega)]
theorem cells_of_rows {H : Type} {enc : TypeId × Value → H} {P : Program} {w : World} {base : Nat} {sp : Nat → Bool} {held : Bool} {fuel : Nat} {t e1 e : TypeId} {n m : Nat} {k : IntKind} {cs : List Value} {rows : List (List Int)} {p : List MemPlace}
 (ht : P.underlying t = some (.array n e1)) (h1 : P.underlying e1 = some (.array m e)) (he : P.underlying e = some (.int k)) (hce : P.cellsOf e = 1) (hc1 : P.cellsOf e1 = m) (hct : P.cellsOf t = n * m) (_hm : 0 < m)
 (h : DataW.trod enc P w base sp held fuel t cs = some (.agg (rows.map (Lib.tabData k)), p)) : cs.length = n * m ∧ ∀ i, i < n → (cs.drop (i * m)).take m = (rows.getD i []).map fun z => Value.int k z := by
 obtain ⟨xs, m', _, hx, hl, hxl, hh⟩ := DataW.trod_array ht h
 refine ⟨by rw [hl, hct], fun i hi => ?_⟩
 have hi2 := hh i hi
 rw [hc1, List.getElem?_eq_getElem (by omega)] at hi2
 have hr : rows.map (Lib.tabData k) = xs.map (·.1) := by
  have := congrArg Prod.fst hx
  simpa using this
 have hlen : rows.length = n := by have := congrArg List.length hr; simpa [hxl] using this
 have hrow : (xs[i]'(by omega)).1 = (Lib.tabData k (rows.getD i []) : DataW H) := by
  have e2 := congrArg (fun l => l[i]?) hr
  simp only [List.getElem?_map, List.getElem?_eq_getElem (show i < xs.length by omega), List.getElem?_eq_getElem (show i < rows.length by omega), Option.map_some, Option.some.injEq] at e2
  rw [← e2]
  simp [List.getD_eq_getElem?_getD, hlen, hi]
 obtain ⟨x1, x2⟩ : ∃ a b, xs[i]'(by omega) = (a, b) := ⟨_, _, rfl⟩
 rw [show xs[i]'(by omega) = ((xs[i]'(by omega)).1, (xs[i]'(by omega)).2) from rfl, hrow] at hi2
 exact Lib.cells_of_tab h1 he hce hc1 hi2
end Sha
end Go.Proofs.YtahcjnganedbiaaGreatDoor
