/- Layer 15's steps: a slice of them that reads as a list; the law's short. -/
import Derived.Test.YteiffdccfmfdbaaLruRWo
import Derived.Test.YteiffdccfmfdbaaLs
import Derived.Deep.Cut
import Derived.Great.Walk
namespace Go.Proofs.Yteiffdccfmfdbaa
namespace Sha
open Go.RowKit Mem
/-- A step: its page's slice is a, of capacity c. -/
structure Step15 where
  k : BitVec 8
  item : Int
  page : List (BitVec 8)
  a : Option Addr
  c : Nat
deriving Inhabited
def Step15.pv (s : Step15) : Value := .slice s.a s.page.length s.c
def stM (s : Step15) : Array Value := #[.int .u8 (s.k.toNat : Int), .int .i64 s.item, s.pv]
theorem stM_one (s : Step15) : (stM s).all (·.oneCell') = true := by simp [stM, Step15.pv, Value.oneCell']
theorem stM_size (s : Step15) : (stM s).size = 3 := rfl
/-- A slice that reads as steps; their pages read as they say. -/
def SlS15 (w : World) (v : Value) (l : List Step15) : Prop :=
  (∃ a cap, v = .slice a l.length cap ∧ l.length ≤ cap ∧ (l ≠ [] → ∃ bb oo, a = some ⟨bb, oo, none⟩ ∧ bb < w.heap.size ∧ ∀ i, i < l.length → w.rangeAt bb (oo + i * 3) (stM (l.getD i default)).toList)) ∧ ∀ s ∈ l, Sl w s.pv s.page
theorem range_below {w w' : World} {B b o : Nat} {cs : List Value} (h : w.rangeAt b o cs) (hb : Below B w w') (hlt : b < B) : w'.rangeAt b o cs := fun j v hv => (hb.cell (p := ⟨b, o + j, none⟩) hlt).trans (h j v hv)
theorem SlS15.below {w w' : World} {v : Value} {l : List Step15} (h : SlS15 w v l) (hb : Below w.heap.size w w') : SlS15 w' v l := by
  obtain ⟨⟨a, cap, e, hc, hr⟩, hp⟩ := h
  refine ⟨⟨a, cap, e, hc, fun hne => ?_⟩, fun s hs => (hp s hs).below hb⟩
  obtain ⟨bb, oo, ea, hlt, hcell⟩ := hr hne
  exact ⟨bb, oo, ea, Nat.lt_of_lt_of_le hlt hb.size, fun i hi => range_below (hcell i hi) hb hlt⟩
theorem slS15_at {w : World} {a : Option Addr} {n cap : Nat} {l : List Step15} (h : SlS15 w (.slice a n cap) l) {i : Nat} (hi : i < l.length) :
    ∃ bb oo, a = some ⟨bb, oo, none⟩ ∧ bb < w.heap.size ∧ w.rangeAt bb (oo + i * 3) (stM (l.getD i default)).toList ∧ Sl w (l.getD i default).pv (l.getD i default).page := by
  obtain ⟨⟨a', cap', e, _, hr⟩, hp⟩ := h
  injection e with e1 _ _
  obtain ⟨bb, oo, ea, hlt, hc⟩ := hr (by intro e; rw [e] at hi; simp at hi)
  refine ⟨bb, oo, by rw [e1]; exact ea, hlt, hc i hi, hp _ ?_⟩
  rw [List.getD_eq_getElem?_getD, List.getElem?_eq_getElem hi]
  exact List.getElem_mem hi
theorem infoSt : (Try.prog.info? 34).map (·.size) = some 3 := by kernel_rfl
theorem infoSB : (Try.prog.info? 32).map (·.size) = some 1 := by kernel_rfl
theorem elemSt : elemR Try.prog 22 34 (.agg #[.int .u8 0, .int .i64 0, .slice none 0 0]) 3 40 := ⟨Try.underlying22, by kernel_rfl⟩
/-- A step with a page that is not too long. -/
def cutS (s : Step15) : Step15 := { s with page := s.page.take 50 }
def shortS (l : List Step15) : List Step15 := (l.take 200).map cutS
def stC (l : List Step15) : List Value := l.flatMap fun s => (stM s).toList
theorem stC_snoc (l : List Step15) (s : Step15) : stC (l ++ [s]) = stC l ++ (stM s).toList := by simp [stC]
theorem stC_length : ∀ l : List Step15, (stC l).length = l.length * 3
  | [] => rfl
  | s :: l => by
    have : stC (s :: l) = (stM s).toList ++ stC l := rfl
    rw [this, List.length_append, stC_length l, List.length_cons]
    simp [stM]; omega
theorem stC_get : ∀ (l : List Step15) (i j : Nat) (u : Value), i < l.length → (stM (l.getD i default)).toList[j]? = some u → (stC l)[3 * i + j]? = some u
  | [], i, j, u, h, _ => by simp at h
  | s :: l, 0, j, u, _, hu => by
    have e : stC (s :: l) = (stM s).toList ++ stC l := rfl
    have hj := (List.getElem?_eq_some_iff.1 hu).1
    rw [e, Nat.mul_zero, Nat.zero_add, List.getElem?_append_left (by simpa using hj)]
    simpa using hu
  | s :: l, i + 1, j, u, h, hu => by
    have e : stC (s :: l) = (stM s).toList ++ stC l := rfl
    rw [e, List.getElem?_append_right (by simp [stM]; omega), show 3 * (i + 1) + j - (stM s).toList.length = 3 * i + j by simp [stM]; omega]
    exact stC_get l i j u (by simpa using h) (by simpa using hu)
theorem own_slS15 {w : World} {B : Nat} {v : Value} {l : List Step15} (h : w.ownsRow B 34 3 v l.length (stC l)) (hp : ∀ s ∈ l, Sl w s.pv s.page) : SlS15 w v l := by
  obtain ⟨_, a, cap, e, hc, hr⟩ := ownsRow_slR h
  refine ⟨⟨a, cap, e, hc, fun hne => ?_⟩, hp⟩
  obtain ⟨bb, oo, ea, _, hlt, hcell⟩ := hr (fun h0 => hne (List.eq_nil_of_length_eq_zero h0))
  exact ⟨bb, oo, ea, hlt, fun i hi j u hu => by rw [← hcell (3 * i + j) u (stC_get l i j u hi hu)]; congr 2; omega⟩
theorem slice_to3 (ty e : TypeId) (hu : Try.prog.underlying ty = some (.slice e)) (hs : (Try.prog.info? e).map (·.size) = some 3) (a0 : Option Addr) (len cap j : Nat) (hj : j ≤ len) (hc : len ≤ cap) (w : World) :
    (Instr.sliceAt ty (.slice a0 len cap) none (some (.int .i64 (j : Int))) none).run Try.prog w = .ok (.slice a0 j cap) w := by
  cases hq : Try.prog.info? e with
  | none => simp [hq] at hs
  | some q =>
    have hjc : j ≤ cap := by omega
    have ha : (a0.map fun x => x.add 0) = a0 := by cases a0 <;> simp [Addr.add]
    simp [Instr.sliceAt, Instr.slice, Instr.sliceBounds, Instr.sliceBound, asIntOf, Sem.run_bind, run_underlying hu, sizeOf, typeInfo, hq, hjc, ha]
theorem cut_sl {w : World} {s' : Step15} (h1 : Sl w s'.pv s'.page) : Sl w (cutS s').pv (cutS s').page := by
  unfold cutS Step15.pv
  obtain ⟨a1, c1, e1, h2, h3⟩ := h1
  unfold Step15.pv at e1
  injection e1 with e1 _ e3
  refine ⟨s'.a, s'.c, rfl, by simp; omega, fun hne => ?_⟩
  have hne' : s'.page ≠ [] := fun h0 => hne (by simp [h0])
  obtain ⟨b1, o1, e4, e5, e6⟩ := h3 hne'
  refine ⟨b1, o1, by rw [e1]; exact e4, e5, fun i hi => ?_⟩
  simp at hi
  have hi2 : i < s'.page.length := by omega
  rw [e6 i hi2]
  simp [List.getD_eq_getElem?_getD, hi, hi2]
set_option maxRecDepth 100000 in
set_option maxHeartbeats 2000000 in
theorem short15_any (l : List Step15) (v : Value) (w : World) (hv : SlS15 w v l) (hl : l.length ≤ 9223372036854775807) :
    Calls Try.prog 9 #[v] w fun e w' => ∃ v', e = .returned v' ∧ SlS15 w' v' (shortS l) ∧ (∀ j, v'.ownBlock = some j → w.heap.size ≤ j ∧ j < w'.heap.size) ∧ Below w.heap.size w w' := by
  obtain ⟨⟨a, cap, rfl, hcap, _⟩, _⟩ := id hv
  obtain ⟨m, hm⟩ : ∃ m, m = min l.length 200 := ⟨_, rfl⟩
  have hmin : min (l.length : Int) 200 = (m : Int) := by omega
  have hml : m ≤ l.length := by omega
  have hm2 : m ≤ 200 := by omega
  have hsl := fun wx => slice_to3 22 34 Try.underlying22 infoSt a l.length cap m hml hcap wx
  have htk : l.take 200 = l.take m := by rw [hm]; simp [List.take_eq_take_iff]; omega
  have SV := Lib.hid hv; have HML := Lib.hid hml; have TK := Lib.hid htk
  clear hv hml hm htk hcap
  go_enter Try.func9, Try.ntmps9
  go_wp2_with fail
  go_loopw [3, 12] (fun a3 a12 wr => ∃ k : Nat, k ≤ m ∧ a12 = .int .i64 (k : Int) ∧ wr.ownsRow w.heap.size 34 3 a3 k (stC ((l.take k).map cutS)) ∧ Below w.heap.size w wr) (fun _ i _ => m - (intOf i).toNat)
  case atStart => exact ⟨0, Nat.zero_le _, rfl, ownsRow_nil0 _ _ _ _, Below.refl _ _⟩
  case round =>
    clear hsl
    obtain ⟨k, hk, rfl, ho, hb⟩ := hrel
    by_cases hlt : k < m
    · have hlt' : (k : Int) < (m : Int) := by omega
      obtain ⟨bb, oo, rfl, hbb, hrg, hpg⟩ := slS15_at SV.out (i := k) (by have := HML.out; omega)
      obtain ⟨s, hs⟩ : ∃ s, s = l.getD k default := ⟨_, rfl⟩
      rw [← hs] at hrg hpg
      have hrg := range_below hrg hb hbb
      obtain ⟨q, hq⟩ : ∃ q, q = min s.page.length 50 := ⟨_, rfl⟩
      have hmin2 : min (s.page.length : Int) 50 = (q : Int) := by omega
      obtain ⟨n, hn⟩ : ∃ n, n = s.page.length := ⟨_, rfl⟩
      have hqc : q ≤ s.c := by
        obtain ⟨_, c', e, h1, _⟩ := hpg
        injection e with _ _ e3
        omega
      have hset : (stM s).setIfInBounds 2 (.slice s.a q s.c) = stM (cutS s) := by
        simp [stM, cutS, Step15.pv]
        omega
      have hst : l.take (k + 1) = l.take k ++ [s] := by
        have hkl : k < l.length := by have := HML.out; omega
        rw [List.take_add_one, List.getElem?_eq_getElem hkl, hs, List.getD_eq_getElem?_getD, List.getElem?_eq_getElem hkl]; rfl
      rw [← hn] at hmin2
      have hc2 : (stM s)[2]? = some (.slice s.a n s.c) := by rw [hn]; rfl
      have hone := stM_one s
      have hone2 := stM_one (cutS s)
      have hsz := stM_size s
      have hsz2 := stM_size (cutS s)
      obtain ⟨ps, hps⟩ : ∃ ps, ps = (l.take k).map cutS := ⟨_, rfl⟩
      rw [← hps] at ho
      have hsc : stC ps ++ (stM (cutS s)).toList = stC ((l.take (k + 1)).map cutS) := by rw [hst, List.map_append, hps]; simp [stC_snoc]
      have hpl : ps.length = k := by rw [hps]; simp; have := HML.out; omega
      have hbs : ∀ M : Array Value, M = stM (cutS s) → Try.prog.builtSlice 34 1 [(0, .agg M)] = some M := fun M hM => by subst hM; kernel_rfl
      obtain ⟨M, hM⟩ : ∃ M, M = stM s := ⟨_, rfl⟩
      obtain ⟨M2, hM2⟩ : ∃ M2, M2 = stM (cutS s) := ⟨_, rfl⟩
      have hbs := hbs M2 hM2
      rw [← hM] at hrg hset hc2 hone hsz
      rw [← hM2] at hset hone2 hsz2 hsc
      obtain ⟨a3, c3, rfl⟩ := rows_hd ho
      have hnew := at_new wr M 34
      have k2 : (wr.alloc (.cells M 34)).cell? ⟨wr.heap.size, 2, none⟩ = some (.slice s.a n s.c) := by rw [hnew.cell]; exact hc2
      have hbx : Below wr.heap.size wr (wr.alloc (.cells M 34)) := (Below.refl _ _).alloc (Nat.le_refl _) _
      obtain ⟨sa, hsa⟩ : ∃ sa, sa = s.a := ⟨_, rfl⟩
      obtain ⟨sc, hsc1⟩ : ∃ sc, sc = s.c := ⟨_, rfl⟩
      rw [← hsa, ← hsc1] at k2 hset
      rw [← hsc1] at hqc
      have RG := Lib.hid hrg; have OW := Lib.hid ho; have HB := Lib.hid hb; have SET := Lib.hid hset; have ONE := Lib.hid hone; have ONE2 := Lib.hid hone2; have SZ := Lib.hid hsz; have SZ2 := Lib.hid hsz2; have SC := Lib.hid hsc; have NW := Lib.hid hnew; have BX := Lib.hid hbx; have BS := Lib.hid hbs
      clear hrg ho hb hset hone hone2 hsz hsz2 hsc hnew hbx hbs hpg hc2 hst hps hM hM2 hs hq hn hsa hsc1 hpl
      go_wp2_with (first
        | (refine wpList_load_mid (by rfl) 34 _ (by rfl) bb (oo + k * 3) (by rfl) M.toList _ RG.out Try.underlying34 (by rfl) (by rw [infoSt, Array.length_toList, SZ.out]) ?_; rw [Array.toArray_toList])
        | (refine wpList_store_new (by rfl) 34 _ _ (by rfl) (by rfl) M _ 34 (by rfl) (by rfl) (by rw [infoSt, SZ.out]) (by rw [SZ.out]; rfl) ONE.out ?_)
        | (refine Mem.wpList_store_one (by rfl) 32 _ _ (by rfl) (by rfl) wr.heap.size 2 (.slice sa q sc) (by rfl) (by rfl) (by rfl) infoSB _ 34 NW.out (by rw [SZ.out]; omega) ?_; intro w8 ha ho hk; have A8 : Hid (At w8 wr.heap.size M2 34) := Lib.hid (by rw [← SET.out]; exact ha); have B8 : Hid (Below wr.heap.size wr w8) := Lib.hid (hk _ _ BX.out (Nat.le_refl _)); clear ha ho hk k2)
        | (refine wpList_load_all (by rfl) 34 _ (by rfl) wr.heap.size (by rfl) _ Try.underlying34 (by rfl) M2 34 A8.out (by rw [infoSt, SZ2.out]) ?_)
        | ((refine Go.Great.wpList_buildSliceTo (by rfl) 22 34 1 _ (by rfl) _ (by rfl) _ (by rfl) Try.underlying22 M2 (by first | (simp [Act.eval, Act.put]; exact BS.out) | (go_simp; exact BS.out) | (simp only [List.map_toArray, List.map_cons, List.map_nil]; exact BS.out)) ?_); have L8 : Hid (At (w8.alloc (.cells M2 34)) w8.heap.size M2 34) := Lib.hid (at_new w8 M2 _); have BL8 : Hid (Below wr.heap.size wr (w8.alloc (.cells M2 34))) := Lib.hid (B8.out.alloc B8.out.size _))
        | (at_builtin; refine wpList_append_app (by rfl) _ _ 22 (by rfl) (.slice (some ⟨w8.heap.size, 0, none⟩) 1 1) k 1 3 M2.toList (.agg #[.int .u8 0, .int .i64 0, .slice none 0 0]) 40 elemSt (by rfl) (by decide) (by rfl) (ownsRow_below OW.out BL8.out) (by rfl) (by have := rdR_at L8.out; rw [SZ2.out] at this; exact this) (fun u hu => by have := ONE2.out; rw [Array.all_eq_true_iff_forall_mem] at this; exact this u (by simpa using hu)) (by omega) (by omega) (Nat.le_trans HB.out.size BL8.out.size) ?_; intro v5 w5 ho5 _ hb5; have O5 := Lib.hid ho5; have B5 : Hid (Below w.heap.size w w5) := Lib.hid ((HB.out.trans (BL8.out.mono HB.out.size)).trans hb5); clear ho5 hb5)
        | fail)
      go_roundw
      case rel => exact ⟨k + 1, by omega, by go_num, by rw [← SC.out]; exact O5.out, B5.out⟩
      case measure => simp [intOf]; omega
    · have hkm : k = m := by omega
      subst hkm
      have hlen : ((l.take k).map cutS).length = k := by simp; have := HML.out; omega
      have hsS : SlS15 wr u3 (shortS l) := by
        unfold shortS
        rw [TK.out]
        refine own_slS15 (by rw [hlen]; exact ho) fun s hs => ?_
        obtain ⟨s', hs', rfl⟩ := List.mem_map.1 hs
        exact cut_sl ((SV.out.2 s' (List.mem_of_mem_take hs')).below hb)
      have hlt2 := World.ownsRow.lt ho
      have SS := Lib.hid hsS; have HB := Lib.hid hb; have LT := Lib.hid hlt2
      clear ho hb hsS hlen hlt2
      go_wp2_with fail
      go_ret
      exact ⟨u3, rfl, SS.out, LT.out, HB.out⟩
end Sha
end Go.Proofs.Yteiffdccfmfdbaa
