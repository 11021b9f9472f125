/- Layer 6, DevReads: what was written last is read, whether it came by then or not. -/
import Derived.Test.YtlhnegbjoncieaaGreatDoorBL04
import Derived.Test.YtlhnegbjoncieaaGreatDoorBL28
import Derived.Deep.Cut
namespace Go.Proofs.YtlhnegbjoncieaaGreatDoor
namespace Sha
open Go.RowKit Mem
set_option maxRecDepth 100000 in
theorem blk_laid {b x:Lb8} {n p k:Nat} (hb:b.length=n*256) (hx:x.length=256) (hp:p < n) (hk:k < n):blkOf (laidB b (p*256) x) k=if p=k then x else blkOf b k:=by
 have hpn:p*256+256≤n*256:=by omega
 have hkn:k*256+256≤n*256:=by omega
 by_cases h:p=k
 ·rw [if_pos h,blkOf,laidB,←h,List.append_assoc,List.drop_left' (by simp;omega),List.take_left' hx]
 ·rw [if_neg h]
  apply List.ext_getElem?
  intro i
  unfold blkOf laidB
  rw [List.getElem?_take,List.getElem?_take]
  by_cases hi:i < 256
  ·rw [if_pos hi,if_pos hi,List.getElem?_drop,List.getElem?_drop]
   by_cases hlt:k*256+i < p*256
   ·rw [List.append_assoc,List.getElem?_append_left (by simp;omega),List.getElem?_take,if_pos hlt]
   ·have hge:p*256+256≤k*256+i:=by omega
    have e1:(List.take (p*256) b++x).length=p*256+256:=by simp [hx];omega
    rw [List.getElem?_append_right (by rw [e1];exact hge),e1,List.getElem?_drop,hx]
    congr 1
    omega
  ·rw [if_neg hi,if_neg hi]
theorem readTo_flush {n k:Nat} {l:List (Nat × Lb8)} {b:Lb8} (h:WfP n l) (hb:b.length=n*256) (hk:k < n):∀ j,j≤l.length→blkOf (flushTo l b j) k=readTo k (blkOf b k) l j
 | 0,_=>rfl
 | j+1,hj=>by
  obtain ⟨h1,h2⟩:=h j (by omega)
  rw [flushTo,readTo,blk_laid (flushTo_length h hb j (by omega)) h2 h1 hk,readTo_flush h hb hk j (by omega)]
def Has (s:St6) (H:Lb8):Prop:=∀ k,k < 8→stRead s k=List.replicate 256 (H.getD k 0)
structure Solo (R:StAcc) (b:Nat) (E:Foot) (w:World) (s:St6) (wr:World):Prop where
 f:∃ F,R F b wr s∧∀ k,F k→w.heap.size≤k∧¬ E k
 e:∀ k,E k→k < wr.heap.size
 b:Below w.heap.size w wr
section
variable {R:StAcc} {b:Nat} {E:Foot} {w wr wx:World} {s s':St6}
theorem Solo.call {P:Program} {f:FuncId} {vs:Array Value} {v:Value} (h:Solo R b E w s wr) (k:∀ F,R F b wr s→Calls P f vs wr fun e w'=>e=.returned v∧StEnd R F b wr s' w') :
 Calls P f vs wr fun e w'=>e=.returned v∧Solo R b E w s' w'∧Kept E wr w':=by
 obtain ⟨F,h1,h2⟩:=h.f
 have hb:=h.b.size
 refine (k F h1).mono ?_
 rintro e w' ⟨rfl,hs⟩
 obtain ⟨⟨F',h3,h4⟩,h5⟩:=hs
 exact ⟨rfl,⟨⟨F',h3,fun y hy=>(h4 y hy).elim (h2 y) (fun hw=>⟨by omega,fun he=>by have:=h.e y he;omega⟩)⟩,fun y hy=>Nat.lt_of_lt_of_le (h.e y hy) h5.size,h5.below h.b (fun y hy=>(h2 y hy).1) hb⟩,⟨h5.size,fun y hy=>h5.block y (h.e y hy) (fun hF=>(h2 y hF).2 hy)⟩⟩
end
end Sha
end Go.Proofs.YtlhnegbjoncieaaGreatDoor
