/- The program's shape keeps the contracts of layer 12. -/
import Derived.Test.YtbboljmemomcnaaShpPPath
import Derived.Test.YtbboljmemomcnaaShpPBel
namespace Go.Proofs.Ytbboljmemomcnaa
namespace Sha
open Go.RowKit Mem
theorem QEnd.v {v : Value} {w : World} {e : Ending} {w' : World} (h : QEnd v w e w') : VEnd v w e w' := by
  obtain ⟨rfl, rfl⟩ := h
  exact ⟨rfl, Below.refl _ _⟩
def shpP : ShP where
  N := 1
  Z := psC 0
  R := fun _ C p => C = psC p
  info := infoPS
  zero := zeroPS
  zsize := rfl
  size := fun _ _ _ h => by rw [h]; rfl
  one := fun _ _ p h => by rw [h]; exact psC_one p
  below := fun _ _ _ _ h _ => h
  nil := fun _ => rfl
  good := fun p w h0 h1 => (pnew_good p w h0 h1).mono fun _ _ h => ⟨_, h.1, rfl, h.2⟩
  bad := fun z w h => pnew_bad z w h
  pages := fun w _ p _ h => by rw [h]; exact ppages_any p w
  items := fun w _ p h1 h => by rw [h]; exact pitems_any p w h1
  blocks := fun w _ p h1 h => by rw [h]; exact pblocks_any p w h1
  levels := fun w _ p h1 h => by rw [h]; exact plevelsn_any p w h1
  root := fun w _ p h1 h => by rw [h]; exact proot_any p w h1
  level := fun w _ p z h1 h => by rw [h]; exact plevel_any p z w h1
  parent := fun w _ p z h1 h => by rw [h]; exact pparent_any p z w h1
  kids := fun w _ p z h1 h => by rw [h]; exact pkids_any p z w h1
  path := fun w _ p z h1 h => by rw [h]; exact ppath_any p z w h1
  under := fun w _ p z h1 h => by rw [h]; exact punder_any p z w h1
  block := fun w _ p z k h1 h => by rw [h]; exact pblock_any p z k w h1
  item := fun w _ p b h1 h => by rw [h]; exact pitem_any p b w h1
end Sha
end Go.Proofs.Ytbboljmemomcnaa
