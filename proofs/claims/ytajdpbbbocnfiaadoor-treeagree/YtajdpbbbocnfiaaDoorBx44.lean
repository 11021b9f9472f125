/- The program's tree: all its functions do what the laws ask of them. What layer 14's laws ask of arguments that came in: bytes of a store that are others. -/
import Derived.Test.YtajdpbbbocnfiaaDoorBx41
import Derived.Test.YtajdpbbbocnfiaaDoorBx39
import Derived.Test.YtajdpbbbocnfiaaDoorBx40
import Derived.Test.YtajdpbbbocnfiaaDoorBx07
import Derived.Test.YtajdpbbbocnfiaaDoorBx42
import Derived.WalkKit
import Derived.Lib.SmallJoins
namespace Go.Proofs.YtajdpbbbocnfiaaDoor
namespace Sha
open Go.RowKit Mem
theorem treeP : TreeP where
  make := fun key ep P v w hT lk hs hn hl => pmake14_any key ep P v w hT lk hs hn hl
  lay := fun L v w hp hok hv hG hn hL => plays14_any L v w hp hok hv hG hn hL
  fetch := fun key p z r w hT lk hp hok hw0 _ h1 hrw => (pfetch14_any key p z r w hT lk hp hok hw0 h1 hrw).mono fun _ _ h => h.seal
  kids := fun p z pg v w hv hl _ h1 => pkids14_any p z pg v w hv hl h1
  whole := fun key p r w hT lk hp hok hw0 h0 h1 hrw => pwhole14_any key p r w hT lk hp hok hw0 h0 h1 hrw
  way := fun key p r z w hT lk hp hok hw0 h0 h1 hrw => pway14_any key p r z w hT lk hp hok hw0 h0 h1 hrw
end Sha
end Go.Proofs.YtajdpbbbocnfiaaDoor
namespace Go.Proofs.YtajdpbbbocnfiaaDoor
namespace Sha
open Go.ChangeShapes Go.WideShapes Go.ChangeAt Go.WideMaps Go.WideElems Go.RowKit Mem
set_option maxRecDepth 100000
theorem tn_of {H : Type} {enc : TypeId × Value → H} {W : World} {n : Nat} {cs : List Value} {y : DataW H × List MemPlace} (hf : DataW.trod enc Tryd.prog W 0 (fun _ => true) true n 49 cs = some y) : ∃ t : Tn14, cs = (tnC t).toList := by
  obtain ⟨_, _, _, _, hl, _, _⟩ := DataW.trod_struct Tryd.underlying49 hf
  rw [show Tryd.prog.cellsOf 49 = 3 by kernel_rfl] at hl
  obtain ⟨y0, y1, y2, m, _, _, h0, h1, h2⟩ := Deep.trod_struct3 Tryd.underlying49 hf
  simp only at h0 h1 h2
  rw [show Tryd.prog.cellsOf 47 = 1 by kernel_rfl] at h0
  rw [show Tryd.prog.cellsOf 5 = 1 by kernel_rfl] at h1 h2
  obtain ⟨z0, ez0, _, w0⟩ := DataW.trod_int Tryd.underlying47 h0
  obtain ⟨z1, ez1, _, w1⟩ := DataW.trod_int Tryd.underlying5 h1
  obtain ⟨z2, ez2, _, w2⟩ := DataW.trod_int Tryd.underlying5 h2
  simp [Lit.wf, IntKind.min, IntKind.max, IntKind.signed, IntKind.bits] at w0 w1 w2
  have g0 : (((BitVec.ofNat 16 z0.toNat).toNat : Nat) : Int) = z0 := by rw [BitVec.toNat_ofNat]; omega
  have g1 : (((BitVec.ofNat 8 z1.toNat).toNat : Nat) : Int) = z1 := by rw [BitVec.toNat_ofNat]; omega
  have g2 : (((BitVec.ofNat 8 z2.toNat).toNat : Nat) : Int) = z2 := by rw [BitVec.toNat_ofNat]; omega
  refine ⟨⟨BitVec.ofNat 16 z0.toNat, BitVec.ofNat 8 z1.toNat, BitVec.ofNat 8 z2.toNat⟩, ?_⟩
  match cs, hl with
  | [a, b, c], _ =>
    simp at ez0 ez1 ez2
    show [a, b, c] = [.int .u16 (((BitVec.ofNat 16 z0.toNat).toNat : Nat) : Int), .int .u8 (((BitVec.ofNat 8 z1.toNat).toNat : Nat) : Int), .int .u8 (((BitVec.ofNat 8 z2.toNat).toNat : Nat) : Int)]
    rw [g0, g1, g2, ez0, ez1, ez2]
theorem open_tns {H : Type} {enc : TypeId × Value → H} {W : World} {base : Nat} {v : Value} {d : DataW H} {p : List MemPlace} (hval : Value.okWide Tryd.prog W .any base 46 v) (h : DataW.Trod enc Tryd.prog W 0 (fun _ => true) true 46 v d p) :
    ∃ l : List Tn14, SlTn W v l := by
  obtain ⟨a0, len0, cap0, rfl⟩ := okWide_slice Tryd.underlying46 hval
  obtain ⟨fuel, hf⟩ := h
  rcases DataW.trod_slice Tryd.underlying46 hf with ⟨hcs, _⟩ | ⟨a, len, cap, elems, rest, n, _, hcs, _, hb, hl, hm, hlen, hel, _, _⟩
  · simp [Value.cells] at hcs
    obtain ⟨rfl, rfl, rfl⟩ := hcs
    exact ⟨[], none, 0, rfl, fun h => absurd rfl h⟩
  · simp [Value.cells] at hcs
    obtain ⟨rfl, rfl, rfl⟩ := hcs
    rw [show Tryd.prog.cellsOf 49 = 3 by kernel_rfl] at hel
    have each : ∀ i, i < len0 → ∃ x : Tn14, ∀ j, j < 3 → W.cell? ((a.add (i * 3)).add j) = (tnC x).toList[j]? := fun i hi => by
      have h1 := hel i hi
      rw [List.getElem?_eq_getElem (by omega), Option.bind_eq_some_iff] at h1
      obtain ⟨cs', hc, hy⟩ := h1
      obtain ⟨x, rfl⟩ := tn_of hy
      refine ⟨x, fun j hj => ?_⟩
      have h2 := (World.cells?_some hc).2.2 j hj
      simpa using h2
    haveI : Inhabited Tn14 := ⟨ztn⟩
    obtain ⟨f, hff⟩ := Deep.choose_lt each
    have hL : ((List.range len0).map f).length = len0 := by simp
    have hg : ∀ i, i < len0 → ((List.range len0).map f).getD i ztn = f i := fun i hi => by simp [List.getD_eq_getElem?_getD, hi]
    refine ⟨(List.range len0).map f, some a, cap0, by rw [hL], fun hne => ?_⟩
    have h0 : 0 < len0 := by rw [← hL]; exact List.length_pos_iff.2 hne
    have hc := hff 0 h0 0 (by decide)
    have e0 : (tnC (f 0)).toList[0]? = some (.int .u16 ((f 0).b.toNat : Int)) := rfl
    rw [e0] at hc
    obtain ⟨bb, oo, q⟩ := a
    have hq : q = none := by
      have := World.cell?_spot hc
      simpa [Addr.add] using this
    subst hq
    refine ⟨bb, oo, rfl, ?_, fun i hi j u hu => ?_⟩
    · rw [Addr.add_mid, Addr.add_mid] at hc
      exact block_lt_of_cell hc
    · rw [hL] at hi
      rw [hg i hi] at hu
      have hj : j < 3 := (List.getElem?_eq_some_iff.1 hu).1
      have h3 := hff i hi j hj
      rw [Addr.add_mid, Addr.add_mid, hu] at h3
      exact h3
theorem open_ep14 {H : Type} {enc : TypeId × Value → H} {W : World} {base : Nat} {v : Value} {d : DataW H} {p : List MemPlace} (hval : Value.okWide Tryd.prog W .any base 23 v) (h : DataW.Trod enc Tryd.prog W 0 (fun _ => true) true 23 v d p) :
    ∃ n : BitVec 32, v = .int .u32 (V n) := by
  obtain ⟨c, rfl, _, _, wc⟩ := open_int Tryd.underlying23 hval h
  simp [Lit.wf, IntKind.min, IntKind.max, IntKind.signed, IntKind.bits] at wc
  refine ⟨BitVec.ofNat 32 c.toNat, ?_⟩
  unfold V
  rw [BitVec.toNat_ofNat]
  congr 1
  omega
end Sha
end Go.Proofs.YtajdpbbbocnfiaaDoor
