/- Layer 14's law TreeFetches, over the contracts: all cases. -/
import Derived.Test.YtddjdaocdfkgeaaGreatDoorBQ43
set_option maxRecDepth 100000
set_option maxHeartbeats 2000000
namespace Go.Proofs.YtddjdaocdfkgeaaGreatDoor
namespace Sha
open Go.RowKit Mem
set_option maxRecDepth 100000
theorem fetches14_core (T:TreeP) (l:List (Lb8)) (ts:List Tn14) (z:Int) (v vt:Value) (w:World) (hT:TT w) (hs:Sls w v l) (ht:SlTn w vt ts) :
 Calls Tryz.prog 3 #[v,vt,.int .i64 z] w (fun e w'=>e=.returned (.bool true)∧Below w.heap.size w w'):=by
 by_cases hg:farP l=false∧l.length≠0∧l.length≤216∧ts.length≤20
 ·exact fetches14_good T l ts z v vt w hT hs ht hg.1 hg.2.1 hg.2.2.1 hg.2.2.2
 ·have fr:=far14_any l v w hs
  have live:=alive14_any T w hT
  have hc:farP l=true∨(farP l=false∧l.length=0)∨(farP l=false∧l.length≠0∧216 < l.length)∨(farP l=false∧l.length≠0∧l.length≤216∧20 < ts.length):=by
   cases h:farP l
   ·by_cases h0:l.length=0
    ·exact .inr (.inl ⟨rfl,h0⟩)
    ·by_cases h1:l.length≤216
     ·exact .inr (.inr (.inr ⟨rfl,h0,h1,by by_cases h2:ts.length≤20;exact absurd ⟨h,h0,h1,h2⟩ hg;omega⟩))
     ·exact .inr (.inr (.inl ⟨rfl,h0,by omega⟩))
   ·exact .inl rfl
  obtain ⟨asx,cap,rfl,_,_⟩:=hs
  obtain ⟨at_,ct,rfl,_⟩:=ht
  obtain ⟨n,hn⟩:∃ n,n=l.length:=⟨_,rfl⟩
  obtain ⟨m,hm⟩:∃ m,m=ts.length:=⟨_,rfl⟩
  obtain ⟨q,hq⟩:∃ q,q=farP l:=⟨_,rfl⟩
  rw [←hn,←hq] at fr hc
  rw [←hm] at hc
  rw [←hn,←hm]
  have FR:=zh fr;have LIVE:=zh live
  clear fr live hg hn hm hq hT
  rcases hc with rfl | ⟨rfl,h0⟩ | ⟨rfl,h0,h1⟩ | ⟨rfl,h0,h1,h2⟩
  ·go_enter Tryz.func3,Tryz.ntmps3
   go_wp2_with fail
   refine (FR.out).mono ?_
   rintro e w1 ⟨rfl,rfl⟩
   go_wp2_with fail
   refine (LIVE.out).mono ?_
   rintro e wz ⟨rfl,hbz⟩
   have BZ:=zh hbz
   clear hbz
   go_wp2_with fail
   go_ret
   exact ⟨rfl,BZ.out⟩
  ·subst h0
   go_enter Tryz.func3,Tryz.ntmps3
   go_wp2_with fail
   refine (FR.out).mono ?_
   rintro e w1 ⟨rfl,rfl⟩
   go_wp2_with fail
   refine (LIVE.out).mono ?_
   rintro e wz ⟨rfl,hbz⟩
   have BZ:=zh hbz
   clear hbz
   go_wp2_with fail
   go_ret
   exact ⟨rfl,BZ.out⟩
  ·have g0:((n:Int) == 0)=false:=beq_eq_false_iff_ne.mpr (by omega)
   have g1:¬ (n:Int)=0:=by omega
   have g2:(216:Int) < (n:Int):=by omega
   go_enter Tryz.func3,Tryz.ntmps3
   go_wp2_with fail
   refine (FR.out).mono ?_
   rintro e w1 ⟨rfl,rfl⟩
   go_wp2_with fail
   refine (LIVE.out).mono ?_
   rintro e wz ⟨rfl,hbz⟩
   have BZ:=zh hbz
   clear hbz
   go_wp2_with fail
   go_ret
   exact ⟨rfl,BZ.out⟩
  ·have g0:((n:Int) == 0)=false:=beq_eq_false_iff_ne.mpr (by omega)
   have g1:¬ (n:Int)=0:=by omega
   have g2:¬ (216:Int) < (n:Int):=by omega
   have g3:(20:Int) < (m:Int):=by omega
   go_enter Tryz.func3,Tryz.ntmps3
   go_wp2_with fail
   refine (FR.out).mono ?_
   rintro e w1 ⟨rfl,rfl⟩
   go_wp2_with fail
   refine (LIVE.out).mono ?_
   rintro e wz ⟨rfl,hbz⟩
   have BZ:=zh hbz
   clear hbz
   go_wp2_with fail
   go_ret
   exact ⟨rfl,BZ.out⟩
end Sha
end Go.Proofs.YtddjdaocdfkgeaaGreatDoor
