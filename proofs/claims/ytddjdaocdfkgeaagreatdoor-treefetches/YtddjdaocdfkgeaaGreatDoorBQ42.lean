/- Layer 14's law: slices of bytes that are others (Turned). What layer 14's laws ask of arguments that came in: bytes of a store that are others. -/
import Derived.Test.YtddjdaocdfkgeaaGreatDoorBQ39
import Derived.Test.YtddjdaocdfkgeaaGreatDoorBQ24
import Derived.Test.YtddjdaocdfkgeaaGreatDoorBQ16
import Derived.Test.YtddjdaocdfkgeaaGreatDoorBQ37
import Derived.Test.YtddjdaocdfkgeaaGreatDoorBQ01
import Derived.WalkKit
import Derived.Lib.SmallJoins
namespace Go.Proofs.YtddjdaocdfkgeaaGreatDoor
namespace Sha
open Go.RowKit Mem
structure Tn14 where
 b:BitVec 16
 a:BitVec 8
 y:BitVec 8
def ztn:Tn14:=⟨0,0,0⟩
def tnC (t:Tn14):Array Value:=#[.int .u16 (t.b.toNat:Int),.int .u8 (t.a.toNat:Int),.int .u8 (t.y.toNat:Int)]
def SlTn (w:World) (v:Value) (l:List Tn14):Prop:=
 ∃ a cap,v=.slice a l.length cap∧(l≠[]→∃ b o,a=some ⟨b,o,none⟩∧b < w.heap.size∧∀ i,i < l.length→w.rangeAt b (o+i*3) (tnC (l.getD i ztn)).toList)
theorem SlTn.below {w wr:World} {v:Value} {l:List Tn14} (h:SlTn w v l) (hb:Below w.heap.size w wr):SlTn wr v l:=by
 obtain ⟨a,cap,e,hr⟩:=h
 refine ⟨a,cap,e,fun hne=>?_⟩
 obtain ⟨b,o,ea,hlt,hc⟩:=hr hne
 exact ⟨b,o,ea,Nat.lt_of_lt_of_le hlt hb.size,fun i hi=>range_block (hc i hi) (hb.block b hlt)⟩
theorem sltn_at {w:World} {a:Option Addr} {n c i:Nat} {l:List Tn14} (h:SlTn w (.slice a n c) l) (hn:n=l.length) (hi:i < n):∃ b o,a=some ⟨b,o,none⟩∧w.rangeAt b (o+i*3) (tnC (l.getD i ztn)).toList:=by
 obtain ⟨a',c',e,hr⟩:=h
 obtain ⟨b,o,ea,_,hc⟩:=hr (by intro e0;subst e0;simp at hn;omega)
 injection e with e1 _ _
 subst e1
 exact ⟨b,o,ea,hc i (by omega)⟩
theorem infoTn:(Tryz.prog.info? 38).map (·.size)=some 3:=by kernel_rfl
theorem zeroTn (w:World):(zeroValue 38).run Tryz.prog w=.ok (.agg (tnC ztn)) w:=by kernel_rfl
theorem tnC_one (t:Tn14):(tnC t).all (·.oneCell')=true:=by simp [tnC,Value.oneCell']
theorem conv_tb (x:BitVec 16) (w:World):(convert 36 3 (.int .u16 (x.toNat:Int))).run Tryz.prog w=.ok (.int .i64 (x.toNat:Int)) w:=by
 have h:=x.isLt
 have h2:IntKind.i64.wrap (x.toNat:Int)=(x.toNat:Int):=by simp [IntKind.wrap,IntKind.bits,IntKind.signed];omega
 go_simp
theorem conv_ta (x:BitVec 8) (w:World):(convert 5 3 (.int .u8 (x.toNat:Int))).run Tryz.prog w=.ok (.int .i64 (x.toNat:Int)) w:=by
 have h:=x.isLt
 have h2:IntKind.i64.wrap (x.toNat:Int)=(x.toNat:Int):=by simp [IntKind.wrap,IntKind.bits,IntKind.signed];omega
 go_simp
theorem o_rem {P:Program} (t:TypeId) (x y:Operand) (a n:Nat) (h0:0 < n) (ha:a≤9223372036854775807) (w:World):(do eqGuard .rem t x y (.int .i64 (a:Int)) (.int .i64 (n:Int));binOp .rem 3 (.int .i64 (a:Int)) (.int .i64 (n:Int)):Sem Value).run P w=.ok (.int .i64 ((a % n:Nat):Int)) w:=by
 have hn:¬ (n:Int)=0:=by omega
 have hz:((n:Int) == 0)=false:=beq_eq_false_iff_ne.mpr hn
 have hl:a % n < n:=Nat.mod_lt _ h0
 have hle:a % n≤a:=Nat.mod_le _ _
 have he:(a:Int).tmod (n:Int)=((a % n:Nat):Int):=by
  rw [Int.tmod_eq_emod_of_nonneg (by omega)];rfl
 have h2:IntKind.i64.wrap ((a % n:Nat):Int)=((a % n:Nat):Int):=by
  simp only [IntKind.wrap,IntKind.bits,IntKind.signed]
  simp
  omega
 go_simp
 omega
theorem ok_tam {m:Nat} {s:St6} (h:Ok6 m s) (n k:Nat) (x:Lb8) (hn:n < s.n) (hk:k+x.length≤256):Ok6 m (stTamper s (n*256+k) x):=ok_tamper h n k x hn hk
end Sha
end Go.Proofs.YtddjdaocdfkgeaaGreatDoor
namespace Go.Proofs.YtddjdaocdfkgeaaGreatDoor
namespace Sha
open Go.ChangeShapes Go.WideShapes Go.ChangeAt Go.WideMaps Go.WideElems Go.RowKit Mem
set_option maxRecDepth 100000
theorem tn_of {H:Type} {enc:TypeId × Value→H} {W:World} {n:Nat} {cs:List Value} {y:DataW H × List MemPlace} (hf:DataW.trod enc Tryz.prog W 0 (fun _=>true) true n 38 cs=some y):∃ t:Tn14,cs=(tnC t).toList:=by
 obtain ⟨_,_,_,_,hl,_,_⟩:=DataW.trod_struct Tryz.underlying38 hf
 rw [show Tryz.prog.cellsOf 38=3 by kernel_rfl] at hl
 obtain ⟨y0,y1,y2,m,_,_,h0,h1,h2⟩:=Deep.trod_struct3 Tryz.underlying38 hf
 simp only at h0 h1 h2
 rw [show Tryz.prog.cellsOf 36=1 by kernel_rfl] at h0
 rw [show Tryz.prog.cellsOf 5=1 by kernel_rfl] at h1 h2
 obtain ⟨z0,ez0,_,w0⟩:=DataW.trod_int Tryz.underlying36 h0
 obtain ⟨z1,ez1,_,w1⟩:=DataW.trod_int Tryz.underlying5 h1
 obtain ⟨z2,ez2,_,w2⟩:=DataW.trod_int Tryz.underlying5 h2
 simp [Lit.wf,IntKind.min,IntKind.max,IntKind.signed,IntKind.bits] at w0 w1 w2
 have g0:(((BitVec.ofNat 16 z0.toNat).toNat:Nat):Int)=z0:=by rw [BitVec.toNat_ofNat];omega
 have g1:(((BitVec.ofNat 8 z1.toNat).toNat:Nat):Int)=z1:=by rw [BitVec.toNat_ofNat];omega
 have g2:(((BitVec.ofNat 8 z2.toNat).toNat:Nat):Int)=z2:=by rw [BitVec.toNat_ofNat];omega
 refine ⟨⟨BitVec.ofNat 16 z0.toNat,BitVec.ofNat 8 z1.toNat,BitVec.ofNat 8 z2.toNat⟩,?_⟩
 match cs,hl with
 | [a,b,c],_=>
  simp at ez0 ez1 ez2
  show [a,b,c]=[.int .u16 (((BitVec.ofNat 16 z0.toNat).toNat:Nat):Int),.int .u8 (((BitVec.ofNat 8 z1.toNat).toNat:Nat):Int),.int .u8 (((BitVec.ofNat 8 z2.toNat).toNat:Nat):Int)]
  rw [g0,g1,g2,ez0,ez1,ez2]
theorem open_tns {H:Type} {enc:TypeId × Value→H} {W:World} {base:Nat} {v:Value} {d:DataW H} {p:List MemPlace} (hval:Value.okWide Tryz.prog W .any base 23 v) (h:DataW.Trod enc Tryz.prog W 0 (fun _=>true) true 23 v d p) :
 ∃ l:List Tn14,SlTn W v l:=by
 obtain ⟨a0,len0,cap0,rfl⟩:=okWide_slice Tryz.underlying23 hval
 obtain ⟨fuel,hf⟩:=h
 rcases DataW.trod_slice Tryz.underlying23 hf with ⟨hcs,_⟩ | ⟨a,len,cap,elems,rest,n,_,hcs,_,hb,hl,hm,hlen,hel,_,_⟩
 ·simp [Value.cells] at hcs
  obtain ⟨rfl,rfl,rfl⟩:=hcs
  exact ⟨[],none,0,rfl,fun h=>absurd rfl h⟩
 ·simp [Value.cells] at hcs
  obtain ⟨rfl,rfl,rfl⟩:=hcs
  rw [show Tryz.prog.cellsOf 38=3 by kernel_rfl] at hel
  have each:∀ i,i < len0→∃ x:Tn14,∀ j,j < 3→W.cell? ((a.add (i*3)).add j)=(tnC x).toList[j]?:=fun i hi=>by
   have h1:=hel i hi
   rw [List.getElem?_eq_getElem (by omega),Option.bind_eq_some_iff] at h1
   obtain ⟨cs',hc,hy⟩:=h1
   obtain ⟨x,rfl⟩:=tn_of hy
   refine ⟨x,fun j hj=>?_⟩
   have h2:=(World.cells?_some hc).2.2 j hj
   simpa using h2
  haveI:Inhabited Tn14:=⟨ztn⟩
  obtain ⟨f,hff⟩:=Deep.choose_lt each
  have hL:((List.range len0).map f).length=len0:=by simp
  have hg:∀ i,i < len0→((List.range len0).map f).getD i ztn=f i:=fun i hi=>by simp [List.getD_eq_getElem?_getD,hi]
  refine ⟨(List.range len0).map f,some a,cap0,by rw [hL],fun hne=>?_⟩
  have h0:0 < len0:=by rw [←hL];exact List.length_pos_iff.2 hne
  have hc:=hff 0 h0 0 (by decide)
  have e0:(tnC (f 0)).toList[0]?=some (.int .u16 ((f 0).b.toNat:Int)):=rfl
  rw [e0] at hc
  obtain ⟨bb,oo,q⟩:=a
  have hq:q=none:=by
   have:=World.cell?_spot hc
   simpa [Addr.add] using this
  subst hq
  refine ⟨bb,oo,rfl,?_,fun i hi j u hu=>?_⟩
  ·rw [Addr.add_mid,Addr.add_mid] at hc
   exact block_lt_of_cell hc
  ·rw [hL] at hi
   rw [hg i hi] at hu
   have hj:j < 3:=(List.getElem?_eq_some_iff.1 hu).1
   have h3:=hff i hi j hj
   rw [Addr.add_mid,Addr.add_mid,hu] at h3
   exact h3
end Sha
end Go.Proofs.YtddjdaocdfkgeaaGreatDoor
