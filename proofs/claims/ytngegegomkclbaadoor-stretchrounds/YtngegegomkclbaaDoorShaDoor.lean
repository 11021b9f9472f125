/- From the rows' condition (the two tables read as listed) to the walks' facts; the start that meets it. -/
import Derived.Test.YtngegegomkclbaaDoorRows
import Derived.Test.YtngegegomkclbaaDoorShaRef1
import Derived.ProofKit
import Derived.LaidMore
import Derived.LaidHandle
import Derived.OpenShut
import Derived.Stop.Joined
import Derived.Lib.LaidTab
import Derived.MakeChecks
namespace Go.Proofs.YtngegegomkclbaaDoor
namespace Sha
open Go.ChangeShapes Go.WideShapes Go.ChangeAt Go.WideMaps Go.WideElems Go.RowKit Mem

def laidL : List (String × DataW Unit) := [("carling/sha.roundConstants", Rows.laid_carling_sha_roundConstants), ("carling/sha.firstState", Rows.laid_carling_sha_firstState)]
theorem own : ownKnob Tryd.prog.godebug = none := by kernel_rfl
theorem gK : Tryd.prog.globalNamed "carling/sha.roundConstants" = some 0 := by kernel_rfl
theorem gF : Tryd.prog.globalNamed "carling/sha.firstState" = some 1 := by kernel_rfl
theorem tK : (Tryd.prog.globals[0]?).map (·.type) = some 68 := by kernel_rfl
theorem tF : (Tryd.prog.globals[1]?).map (·.type) = some 52 := by kernel_rfl
theorem c1 : Tryd.prog.cellsOf 43 = 1 := by kernel_rfl
theorem c64 : Tryd.prog.cellsOf 68 = 64 := by kernel_rfl
theorem c8 : Tryd.prog.cellsOf 52 = 8 := by kernel_rfl
theorem laidK : (Rows.laid_carling_sha_roundConstants : DataW Unit) = Lib.tabData .u32 (Kl.map V) := by rfl
theorem laidF : (Rows.laid_carling_sha_firstState : DataW Unit) = Lib.tabData .u32 (IVl.map V) := by rfl
theorem tab_of {W : World} {name : String} {g : Nat} {l : List (BitVec 32)} (h : Lib.TabIs Tryd.prog W name .u32 (l.map V)) (hg : Tryd.prog.globalNamed name = some g) (h0 : 0 < l.length) : Tab W g l := by
  have key : ∀ i, i < l.length → W.cell? ⟨g, i, none⟩ = some (.int .u32 (V (l.getD i 0))) := fun i hi => by
    rw [h.cell hg i (by simpa using hi)]
    simp [List.getD_eq_getElem?_getD, hi]
  exact ⟨block_lt_of_cell (key 0 h0), key⟩
theorem tabs_of {W : World} (h : laidMetH Tryd.prog laidL W) : Tabs W := by
  rw [MakeChecks.laidMetH_plain _ _ _ (by kernel_rfl)] at h
  have h1 : laidMet Tryd.prog (("carling/sha.roundConstants", Lib.tabData .u32 (Kl.map V)) :: [("carling/sha.firstState", Rows.laid_carling_sha_firstState)]) W := by
    rw [← laidK]; exact h
  refine ⟨tab_of (Lib.tabIs_of_head gK tK Tryd.underlying68 Tryd.underlying43 c1 c64 h1) gK (by decide), ?_⟩
  obtain ⟨ps, ⟨g0, t0, cs0, f0, p0, q0, hg0, ht0, hv0, hd0, ⟨g1, t1, cs1, f1, p1, q1, hg1, ht1, hv1, hd1, _, _⟩, _⟩, _, _⟩ := h
  obtain rfl := Option.some.inj (gF.symm.trans hg1)
  obtain rfl := Option.some.inj (tF.symm.trans ht1)
  refine tab_of ?_ gF (by decide)
  unfold Lib.TabIs
  rw [laidF] at hd1
  rw [hv1, ← Lib.cells_of_tab Tryd.underlying52 Tryd.underlying43 c1 c8 hd1]
theorem door_met (os : Os) (args : Array Value) : laidMetH Tryd.prog laidL ((World.doorLaid Tryd.prog 4000 os).forCall (fun _ _ => 0) ⟨#[], args, []⟩).memory :=
  laidMetH_of_parts3 (fuel := 200) (laidMet_of_run' 200 (by kernel_rfl) (by kernel_rfl)) (by kernel_rfl) (by kernel_rfl)
end Sha
end Go.Proofs.YtngegegomkclbaaDoor
