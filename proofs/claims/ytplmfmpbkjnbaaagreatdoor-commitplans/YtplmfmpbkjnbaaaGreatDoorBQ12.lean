/- A slice beside a row; how calls end that tell bytes, a reference, a number. bytes.Clone: what it tells lies in a block of its own. -/
import Derived.Test.YtplmfmpbkjnbaaaGreatDoorBQ07
import Derived.Test.YtplmfmpbkjnbaaaGreatDoorBQ00
import Derived.Test.YtplmfmpbkjnbaaaGreatDoorBQ08
import Derived.Test.YtplmfmpbkjnbaaaGreatDoorBQ02
import Derived.OwnWalk
import Derived.Deep.DeepCutAuto
import Derived.Lib.SliceRun
set_option maxRecDepth 100000
set_option maxHeartbeats 1000000
namespace Go.Proofs.YtplmfmpbkjnbaaaGreatDoor
namespace Sha
open Go.RowKit Mem
theorem wb_pow9 (x:BitVec 32) (k:Nat):V x / 2 ^ k % 256=((wb x k).toNat:Int):=wb_val x k _ (by simp)
def SealEnd (w:World) (l:Lb8) (n:Int) (e:Ending) (w':World):Prop:=∃ v,e=.returned (.tuple #[v,.int .i64 n])∧Sl w' v l∧Below w.heap.size w w'
def SealOwn (w:World) (l:Lb8) (n:Int) (e:Ending) (w':World):Prop:=∃ v,e=.returned (.tuple #[v,.int .i64 n])∧OwnB w' w.heap.size v l∧Below w.heap.size w w'
theorem sl_inv {w:World} {v:Value} {l:Lb8} (h:Sl w v l):∃ a c,v=.slice a l.length c:=let ⟨a,c,e,_⟩:=h;⟨a,c,e⟩
theorem ret_tmp_row_tmp {P:Program} {fn:Func} {R:Ending→World→Prop} {tmps:Array Value} {w:World} {q p u:Tmp} {ty:TypeId} (h:fn.results=#[.tmp q,.cell p ty,.tmp u]) (g:Nat) (t:TypeId) (cs:Array Value) (d:TypeDesc) (v1 v:Value)
 (hq:tmps.getD q undef=v1) (hp:tmps.getD p undef=.pointer (some ⟨g,0,none⟩)) (hv:tmps.getD u undef=v) (hg:At w g cs t) (hu:P.underlying ty=some d) (hd:d.isRow=true) (hi:(P.info? ty).map (·.size)=some cs.size)
 (hR:R (.returned (.tuple #[v1,.agg cs,v])) w):bodyPost P fn R .ret ⟨tmps,[]⟩ w:=by
 refine bodyPost_ret (v:=.tuple #[v1,.agg cs,v]) ?_ rfl hR
 have hrow:=run_loadVar_row (P:=P) w g t ty cs (0,0) d hg hu (by cases d <;> first | rfl | exact hd) hi
 rw [Array.getD_eq_getD_getElem?] at hq hp hv
 simp only [results,h]
 simp [Result.andThen,hq,hp,hv,asAddr,hrow]
def ThreeEnd (w:World) (l:Lb8) (r:RefV) (n:Int) (e:Ending) (w':World):Prop:=∃ v,e=.returned (.tuple #[v,.agg (refC r),.int .i64 n])∧Sl w' v l∧Below w.heap.size w w'
def ThreeOwn (w:World) (l:Lb8) (r:RefV) (n:Int) (e:Ending) (w':World):Prop:=∃ v,e=.returned (.tuple #[v,.agg (refC r),.int .i64 n])∧OwnB w' w.heap.size v l∧Below w.heap.size w w'
theorem ThreeOwn.three {w w':World} {l:Lb8} {r:RefV} {n:Int} {e:Ending} (h:ThreeOwn w l r n e w'):ThreeEnd w l r n e w':=let ⟨v,e,hs,hb⟩:=h;⟨v,e,OwnB.sl hs,hb⟩
theorem buildPf0 (w:World):(Instr.build 46 #[]).run Tryz.prog w=.ok (.agg (refC zref)) w:=run_build w _ _ _ (by kernel_rfl)
theorem pclone_any (l:Lb8) (v:Value) (w:World) (bl:l.length≤1000000) (hv:Sl w v l):Calls Tryz.prog 81 #[v] w (PadEnd w l):=by
 have q22:∀ (w:World) (a:Option Addr) (n c n' c':Nat),(binOp .eql 63 (.slice a n c) (.slice none n' c')).run Tryz.prog w=.ok (.bool a.isNone) w:=fun w a n c n' c'=>Lib.run_eql_slice_nil w _ _ a n c n' c' Tryz.underlying63
 have hv0:=hv
 obtain ⟨a0,cap,rfl,_,hr⟩:=hv
 obtain ⟨m,hm⟩:∃ m,m=l.length:=⟨_,rfl⟩
 cases a0 with
 | none=>
  have hl:l=[]:=by
   rcases l with _ | ⟨x,l⟩
   ·rfl
   ·obtain ⟨_,_,h,_⟩:=hr (by simp)
    cases h
  subst hl
  clear hr hv0 hm
  go_enter Tryz.func81,Tryz.ntmps81
  go_wp2
  go_ret
  exact ⟨_,rfl,OwnB.nil _ _,Below.refl _ _⟩
 | some ad=>
  have hsl:Sl (w.alloc (.cells #[] 5)) (.slice (some ad) l.length cap) l:=hv0.below ((Below.refl _ _).alloc (Nat.le_refl _) _)
  have hb0:Below w.heap.size w (w.alloc (.cells #[] 5)):=(Below.refl _ _).alloc (Nat.le_refl _) _
  have how:OwnB (w.alloc (.cells #[] 5)) w.heap.size (.slice (some ⟨w.heap.size,0,none⟩) 0 0) []:=own_none w w.heap.size (Nat.le_refl _)
  rw [←hm] at bl hsl ⊢
  have HV:=zh hsl;have HM:=zh hm;have HB:=zh hb0;have HO:=zh how
  clear hv0 hm hr hsl hb0 how
  go_enter Tryz.func81,Tryz.ntmps81
  go_wp2_with (at_builtin;refine wpList_append_bytes zr _ _ zr w.heap.size (.slice (some ⟨w.heap.size,0,none⟩) 0 0) (.slice (some ad) m cap) [] l zr HO.out zr HV.out (by rw [List.length_nil,←HM.out];omega) (by simp) ?_;intro v5 w5 ho5 _ hb5;have O5:=zh ho5;have B5:=zh (HB.out.trans hb5);clear ho5 hb5)
  go_ret
  exact ⟨_,rfl,by simpa using O5.out,B5.out⟩
end Sha
end Go.Proofs.YtplmfmpbkjnbaaaGreatDoor
