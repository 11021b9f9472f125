/- My own texts, merged. -/
import Derived.Test.YtddjdaocdfkgeaaGreatDoorBQ01
import Derived.Lib.SliceRun
set_option maxRecDepth 100000
set_option maxHeartbeats 1000000
namespace Go.Proofs.YtddjdaocdfkgeaaGreatDoor
namespace Sha
open Go.RowKit Mem
def plOk (r:RefV):Bool:=decide (0≤r.pl∧r.pl≤1)
def bodyN (L:List RefV) (n:Nat):Lb8:=BitVec.ofNat 8 L.length::(L.take n).flatMap layRf
theorem bodyN_succ (L:List RefV) (n:Nat) (h:n < L.length):bodyN L (n+1)=bodyN L n++layRf (L.getD n zref):=by
 unfold bodyN
 rw [List.take_add_one,List.getElem?_eq_getElem h,List.flatMap_append]
 simp [List.getD_eq_getElem?_getD,List.getElem?_eq_getElem h]
theorem flat_length (L:List RefV) (h:∀ r∈L,r.Wf):(L.flatMap layRf).length=37*L.length:=by
 induction L with
 | nil=>rfl
 | cons r L ih=>
  rw [List.flatMap_cons,List.length_append,layRf_length (h r (List.mem_cons_self ..)),ih (fun x hx=>h x (List.mem_cons_of_mem _ hx)),List.length_cons]
  omega
theorem bodyN_length (L:List RefV) (n:Nat) (h:∀ r∈L,r.Wf) (hn:n≤L.length):(bodyN L n).length=1+37*n:=by
 unfold bodyN
 rw [List.length_cons,flat_length _ (fun r hr=>h r (List.mem_of_mem_take hr)),List.length_take]
 omega
def layN (L:List RefV):Lb8 × Int:=
 if L.length < 1∨6 < L.length∨L.all plOk=false then ([],1) else (bodyN L L.length++List.replicate (256 - (1+37*L.length)) 0,0)
theorem layN_ok {L:List RefV} {p:Lb8} (h:layN L=(p,0)):(1≤L.length∧L.length≤6)∧L.all plOk=true∧p=bodyN L L.length++List.replicate (256 - (1+37*L.length)) 0:=by
 unfold layN at h
 split at h
 ·injection h with _ h;cases h
 ·rename_i hc
  injection h with h _
  refine ⟨by omega,?_,h.symm⟩
  cases e:L.all plOk
  ·exact absurd (Or.inr (Or.inr e)) hc
  ·rfl
theorem layN_err (L:List RefV):(layN L).2=0∨(layN L).2=1:=by
 unfold layN
 split
 ·exact .inr rfl
 ·exact .inl rfl
theorem layN_length {L:List RefV} {p:Lb8} (hw:∀ r∈L,r.Wf) (h:layN L=(p,0)):p.length=256:=by
 obtain ⟨h1,_,rfl⟩:=layN_ok h
 rw [List.length_append,bodyN_length L _ hw (Nat.le_refl _),List.length_replicate]
 omega
def pieceN (p:Lb8) (i:Nat):Lb8:=(p.drop (1+37*i)).take 37
def manyN (p:Lb8):Nat:=min (p.getD 0 0).toNat 6
def refsN (p:Lb8) (n:Nat):List RefV:=(List.range n).map fun i=>rfOf (pieceN p i)
theorem refsN_length (p:Lb8) (n:Nat):(refsN p n).length=n:=by simp [refsN]
theorem refsN_succ (p:Lb8) (n:Nat):refsN p (n+1)=refsN p n++[rfOf (pieceN p n)]:=by simp [refsN,List.range_succ]
theorem refsN_get (p:Lb8) (n i:Nat) (h:i < n):(refsN p n).getD i zref=rfOf (pieceN p i):=by simp [refsN,List.getD_eq_getElem?_getD,h]
theorem piece_length (p:Lb8) (i:Nat) (h:p.length=256) (hi:i < 6):(pieceN p i).length=37:=by
 unfold pieceN
 rw [List.length_take,List.length_drop]
 omega
theorem refsN_wf (p:Lb8) (n:Nat) (h:p.length=256) (hn:n≤6):∀ r∈refsN p n,r.Wf:=by
 intro r hr
 unfold refsN at hr
 obtain ⟨i,hi,rfl⟩:=List.mem_map.1 hr
 exact rfOf_wf _ (piece_length p i h (by have:=List.mem_range.1 hi;omega))
def allN (p:Lb8):List RefV × Int:=
 if p.length≠256 then ([],1) else if layN (refsN p (manyN p))=(p,0) then (refsN p (manyN p),0) else ([],9)
def parseN (p:Lb8) (z:Int):List RefV × Int:=
 if z < 1∨6 < z then ([],1) else if (allN p).2=0∧((allN p).1.length:Int)≠z then ([],9) else allN p
theorem bad_piece (p:Lb8) (i n:Nat) (hi:i < n) (h:1 < ((pieceN p i).getD 0 0).toNat):layN (refsN p n)=([],1):=by
 unfold layN
 refine if_pos (Or.inr (Or.inr ?_))
 rw [List.all_eq_false]
 refine ⟨rfOf (pieceN p i),List.mem_map.2 ⟨i,List.mem_range.2 hi,rfl⟩,?_⟩
 have e:(rfOf (pieceN p i)).pl=(((pieceN p i).getD 0 0).toNat:Int):=rfl
 unfold plOk
 rw [e]
 intro hc
 have h2:=of_decide_eq_true hc
 omega
theorem allN_lay {p:Lb8} {L:List RefV} (h:allN p=(L,0)):layN L=(p,0):=by
 unfold allN at h
 split at h
 ·injection h with _ h;cases h
 ·split at h
  ·rename_i h2
   injection h with h _
   rw [←h];exact h2
  ·injection h with _ h;cases h
theorem ref_back (r:RefV) (hr:r.Wf) (h:plOk r=true):rfOf (layRf r)=r:=by
 have h2:0≤r.pl∧r.pl≤1:=by simpa [plOk] using h
 obtain ⟨p,e,d⟩:=r
 have hd:d.length=32:=hr.dg
 have hp:p=0∨p=1:=by simp only at h2;omega
 unfold rfOf layRf
 rw [RefV.mk.injEq]
 refine ⟨?_,?_,?_⟩
 ·rcases hp with rfl | rfl <;> rfl
 ·show lew (([BitVec.ofInt 8 p]++le4 e++d).drop 1) 0=e
  exact lew_le4 e d
 ·show ([BitVec.ofInt 8 p]++le4 e++d).drop 5=d
  rfl
theorem flat_piece:∀ (L:List RefV) (t:Lb8),(∀ r∈L,r.Wf)→∀ i,i < L.length→((L.flatMap layRf++t).drop (37*i)).take 37=layRf (L.getD i zref):=by
 intro L
 induction L with
 | nil=>intro t _ i hi;simp at hi
 | cons r L ih=>
  intro t h i hi
  have hl:=layRf_length (h r (List.mem_cons_self ..))
  rw [List.flatMap_cons,List.append_assoc]
  match i with
  | 0=>
   show (layRf r++_).take 37=layRf r
   rw [List.take_append_of_le_length (by omega),List.take_of_length_le (by omega)]
  | i+1=>
   have e:37*(i+1)=(layRf r).length+37*i:=by omega
   rw [e,List.drop_append,List.drop_of_length_le (by omega),List.nil_append,Nat.add_sub_cancel_left]
   exact ih t (fun x hx=>h x (List.mem_cons_of_mem _ hx)) i (by simpa using hi)
theorem lay_piece {L:List RefV} {p:Lb8} (hw:∀ r∈L,r.Wf) (h:layN L=(p,0)) (i:Nat) (hi:i < L.length):pieceN p i=layRf (L.getD i zref):=by
 obtain ⟨_,_,rfl⟩:=layN_ok h
 unfold pieceN bodyN
 rw [List.take_of_length_le (Nat.le_refl _),List.cons_append,Nat.add_comm 1 (37*i),List.drop_succ_cons]
 exact flat_piece L _ hw i hi
theorem lay_many {L:List RefV} {p:Lb8} (h:layN L=(p,0)):manyN p=L.length∧(p.getD 0 0).toNat=L.length:=by
 obtain ⟨h1,_,rfl⟩:=layN_ok h
 have e:((bodyN L L.length++List.replicate (256 - (1+37*L.length)) 0).getD 0 0).toNat=L.length:=by
  show (BitVec.ofNat 8 L.length).toNat=L.length
  rw [BitVec.toNat_ofNat]
  omega
 unfold manyN
 rw [e]
 omega
theorem lay_refs {L:List RefV} {p:Lb8} (hw:∀ r∈L,r.Wf) (h:layN L=(p,0)):refsN p L.length=L:=by
 have ho:=(layN_ok h).2.1
 apply List.ext_getElem
 ·rw [refsN_length]
 ·intro i h1 h2
  have a:=refsN_get p L.length i h2
  rw [lay_piece hw h i h2] at a
  have e:L.getD i zref=L[i]:=by simp [List.getD_eq_getElem?_getD,h2]
  rw [e,ref_back L[i] (hw _ (List.getElem_mem h2)) (List.all_eq_true.1 ho _ (List.getElem_mem h2))] at a
  rw [←a]
  simp [List.getD_eq_getElem?_getD,h1]
theorem layN_all {L:List RefV} {p:Lb8} (hw:∀ r∈L,r.Wf) (h:layN L=(p,0)):allN p=(L,0):=by
 unfold allN
 rw [if_neg (fun hn=>hn (layN_length hw h)),(lay_many h).1,lay_refs hw h,if_pos h]
theorem lay_parse {L:List RefV} {p:Lb8} (hw:∀ r∈L,r.Wf) (h:layN L=(p,0)):parseN p (L.length:Int)=(L,0):=by
 have h1:=(layN_ok h).1
 unfold parseN
 rw [layN_all hw h,if_neg (by omega),if_neg (by simp)]
theorem allN_wf (p:Lb8):∀ r∈(allN p).1,r.Wf:=by
 unfold allN
 split
 ·intro r hr;cases hr
 ·rename_i h
  split
  ·exact refsN_wf p _ (by omega) (by unfold manyN;omega)
  ·intro r hr;cases hr
theorem allN_le (p:Lb8):(allN p).1.length≤6:=by
 unfold allN
 split
 ·simp
 ·split
  ·rw [refsN_length];unfold manyN;omega
  ·simp
def SlB (F:Foot) (w:World) (v:Value) (l:Lb8):Prop:=SlR F w 1 v l.length (u8s l)
theorem SlB.sl {F:Foot} {w:World} {v:Value} {l:Lb8} (h:SlB F w v l):Sl w v l:=by
 obtain ⟨_,a,cap,rfl,hc,hr⟩:=h
 refine ⟨a,cap,rfl,hc,fun hne=>?_⟩
 obtain ⟨bb,oo,ea,_,hlt,hcell⟩:=hr (fun h0=>hne (List.eq_nil_of_length_eq_zero h0))
 exact ⟨bb,oo,ea,hlt,fun i hi=>hcell i _ (u8s_get l i hi)⟩
theorem SlB.keep {F:Foot} {w w':World} {v:Value} {l:Lb8} (h:SlB F w v l) (hs:w.heap.size≤w'.heap.size) (hk:∀ k,F k→k < w.heap.size→w'.heap[k]?=w.heap[k]?):SlB F w' v l:=SlR.keep h hs hk
theorem SlB.mono {F G:Foot} {w:World} {v:Value} {l:Lb8} (h:SlB F w v l) (hs:∀ k,F k→k < w.heap.size→G k):SlB G w v l:=SlR.mono h hs
theorem OwnB.slB {w:World} {B:Nat} {v:Value} {l:Lb8} (h:OwnB w B v l):SlB (fun k=>B≤k) w v l:=ownsRow_slR h
theorem slB_nil (F:Foot) (w:World):SlB F w (.slice none 0 0) []:=SlR.nil F w 1
structure St6 where
 n:Nat
 b:Lb8
 w:List (Nat × Lb8)
 sh:List (Lb8)
 t:List Int
def putC:List (Nat × Value)→List Value
 | []=>[]
 | p::l=>.int .i64 (p.1:Int)::p.2::putC l
theorem putC_snoc (p:Nat × Value):∀ l,putC (l++[p])=putC l++[.int .i64 (p.1:Int),p.2]
 | []=>rfl
 | _::l=>by simp [putC,putC_snoc p l]
theorem putC_at:∀ (l:List (Nat × Value)) (i:Nat) (p:Nat × Value),l[i]?=some p→(putC l)[2*i]?=some (.int .i64 (p.1:Int))∧(putC l)[2*i+1]?=some p.2
 | q::l,0,p,h=>by
  have hq:q=p:=by simpa using h
  subst hq
  exact ⟨rfl,rfl⟩
 | q::l,i+1,p,h=>by
  have h':l[i]?=some p:=by simpa using h
  have:=putC_at l i p h'
  simpa [putC,Nat.mul_add] using this
def WPut (G:Foot) (w:World) (v:Value) (l:List (Nat × Lb8)):Prop:=∃ ws:List (Nat × Value),Each2 (fun p q=>p.1=q.1∧SlB G w p.2 q.2) ws l∧SlR G w 2 v l.length (putC ws)
def WSh (G:Foot) (w:World) (v:Value) (l:List (Lb8)):Prop:=∃ hs:List Value,Each2 (fun p q=>SlB G w p q) hs l∧SlR G w 1 v l.length hs
def i64s (l:List Int):List Value:=l.map fun k=>.int .i64 k
def WTr (G:Foot) (w:World) (v:Value) (l:List Int):Prop:=SlR G w 1 v l.length (i64s l)
theorem WPut.keep {G:Foot} {w w':World} {v:Value} {l:List (Nat × Lb8)} (h:WPut G w v l) (hs:w.heap.size≤w'.heap.size) (hk:∀ k,G k→k < w.heap.size→w'.heap[k]?=w.heap[k]?):WPut G w' v l:=by
 obtain ⟨ws,h1,h2⟩:=h
 exact ⟨ws,h1.mono fun _ _ h=>⟨h.1,h.2.keep hs hk⟩,h2.keep hs hk⟩
theorem WPut.mono {G H:Foot} {w:World} {v:Value} {l:List (Nat × Lb8)} (h:WPut G w v l) (hs:∀ k,G k→k < w.heap.size→H k):WPut H w v l:=by
 obtain ⟨ws,h1,h2⟩:=h
 exact ⟨ws,h1.mono fun _ _ h=>⟨h.1,h.2.mono hs⟩,h2.mono hs⟩
theorem WSh.keep {G:Foot} {w w':World} {v:Value} {l:List (Lb8)} (h:WSh G w v l) (hs:w.heap.size≤w'.heap.size) (hk:∀ k,G k→k < w.heap.size→w'.heap[k]?=w.heap[k]?):WSh G w' v l:=by
 obtain ⟨ws,h1,h2⟩:=h
 exact ⟨ws,h1.mono fun _ _ h=>h.keep hs hk,h2.keep hs hk⟩
theorem WSh.mono {G H:Foot} {w:World} {v:Value} {l:List (Lb8)} (h:WSh G w v l) (hs:∀ k,G k→k < w.heap.size→H k):WSh H w v l:=by
 obtain ⟨ws,h1,h2⟩:=h
 exact ⟨ws,h1.mono fun _ _ h=>h.mono hs,h2.mono hs⟩
theorem WPut.hd {G:Foot} {w:World} {v:Value} {l:List (Nat × Lb8)} (h:WPut G w v l):∃ a cap,v=.slice a l.length cap:=by
 obtain ⟨_,_,_,a,cap,e,_⟩:=h;exact ⟨a,cap,e⟩
theorem WSh.hd {G:Foot} {w:World} {v:Value} {l:List (Lb8)} (h:WSh G w v l):∃ a cap,v=.slice a l.length cap:=by
 obtain ⟨_,_,_,a,cap,e,_⟩:=h;exact ⟨a,cap,e⟩
theorem WTr.hd {G:Foot} {w:World} {v:Value} {l:List Int} (h:WTr G w v l):∃ a cap,v=.slice a l.length cap:=by
 obtain ⟨_,a,cap,e,_⟩:=h;exact ⟨a,cap,e⟩
theorem SlB.hd {G:Foot} {w:World} {v:Value} {l:Lb8} (h:SlB G w v l):∃ a cap,v=.slice a l.length cap:=by
 obtain ⟨_,a,cap,e,_⟩:=h;exact ⟨a,cap,e⟩
structure Four (G:Foot) (w:World) (vb vw vs vt:Value) (s:St6):Prop where
 fb:SlB G w vb s.b
 fw:WPut G w vw s.w
 fs:WSh G w vs s.sh
 ft:WTr G w vt s.t
theorem Four.keep {G:Foot} {w w':World} {vb vw vs vt:Value} {s:St6} (h:Four G w vb vw vs vt s) (hs:w.heap.size≤w'.heap.size) (hk:∀ k,G k→k < w.heap.size→w'.heap[k]?=w.heap[k]?):Four G w' vb vw vs vt s:=
 ⟨h.fb.keep hs hk,h.fw.keep hs hk,h.fs.keep hs hk,SlR.keep h.ft hs hk⟩
theorem Four.mono {G H:Foot} {w:World} {vb vw vs vt:Value} {s:St6} (h:Four G w vb vw vs vt s) (hs:∀ k,G k→k < w.heap.size→H k):Four H w vb vw vs vt s:=
 ⟨h.fb.mono hs,h.fw.mono hs,h.fs.mono hs,SlR.mono h.ft hs⟩
structure StEnd (R:Foot→Nat→World→St6→Prop) (F:Foot) (br:Nat) (w:World) (s:St6) (w':World):Prop where
 h:∃ F',R F' br w' s∧∀ k,F' k→F k∨w.heap.size≤k
 c:Chg F w w'
theorem StEnd.trans {R:Foot→Nat→World→St6→Prop} {F F1:Foot} {br:Nat} {w w1 w2:World} {s2:St6} (hc:Chg F w w1) (hx:∀ k,F1 k→F k∨w.heap.size≤k) (k:StEnd R F1 br w1 s2 w2):StEnd R F br w s2 w2:=by
 obtain ⟨F',h1,h2⟩:=k.h
 exact ⟨⟨F',h1,fun k hk=>(h2 k hk).elim (hx k) (fun h=>.inr (Nat.le_trans hc.size h))⟩,hc.trans k.c hx⟩
theorem pclone_any (l:Lb8) (v:Value) (w:World) (bl:l.length≤1000000) (hv:Sl w v l):Calls Tryz.prog 29 #[v] w (PadEnd w l):=by
 have q22:∀ (w:World) (a:Option Addr) (n c n' c':Nat),(binOp .eql 40 (.slice a n c) (.slice none n' c')).run Tryz.prog w=.ok (.bool a.isNone) w:=fun w a n c n' c'=>Lib.run_eql_slice_nil w _ _ a n c n' c' Tryz.underlying40
 have hv0:=hv
 obtain ⟨a0,cap,rfl,_,hr⟩:=hv
 obtain ⟨m,hm⟩:∃ m,m=l.length:=⟨_,rfl⟩
 cases a0 with
 | none=>
  have hl:l=[]:=by
   rcases l with _ | ⟨x,l⟩
   ·rfl
   ·obtain ⟨_,_,h,_⟩:=hr (by simp)
    cases h
  subst hl
  clear hr hv0 hm
  go_enter Tryz.func29,Tryz.ntmps29
  go_wp2
  go_ret
  exact ⟨_,rfl,OwnB.nil _ _,Below.refl _ _⟩
 | some ad=>
  have hsl:Sl (w.alloc (.cells #[] 5)) (.slice (some ad) l.length cap) l:=hv0.below ((Below.refl _ _).alloc (Nat.le_refl _) _)
  have hb0:Below w.heap.size w (w.alloc (.cells #[] 5)):=(Below.refl _ _).alloc (Nat.le_refl _) _
  have how:OwnB (w.alloc (.cells #[] 5)) w.heap.size (.slice (some ⟨w.heap.size,0,none⟩) 0 0) []:=own_none w w.heap.size (Nat.le_refl _)
  rw [←hm] at bl hsl ⊢
  have HV:=zh hsl;have HM:=zh hm;have HB:=zh hb0;have HO:=zh how
  clear hv0 hm hr hsl hb0 how
  go_enter Tryz.func29,Tryz.ntmps29
  go_wp2_with (at_builtin;refine wpList_append_bytes zr _ _ zr w.heap.size (.slice (some ⟨w.heap.size,0,none⟩) 0 0) (.slice (some ad) m cap) [] l zr HO.out zr HV.out (by rw [List.length_nil,←HM.out];omega) (by simp) ?_;intro v5 w5 ho5 _ hb5;have O5:=zh ho5;have B5:=zh (HB.out.trans hb5);clear ho5 hb5)
  go_ret
  exact ⟨_,rfl,by simpa using O5.out,B5.out⟩
theorem lay_rfOf (b:Lb8) (hl:b.length=37):layRf (rfOf b)=b:=by
 match b,hl with
 | b0::b1::b2::b3::b4::t,_=>
  have e0:BitVec.ofInt 8 ((b0.toNat:Nat):Int)=b0:=by
   apply BitVec.eq_of_toNat_eq
   have:=b0.isLt
   rw [BitVec.toNat_ofInt]
   omega
  have e1:=le4_lew b1 b2 b3 b4 t
  show [BitVec.ofInt 8 ((b0.toNat:Nat):Int)]++le4 (lew (b1::b2::b3::b4::t) 0)++t=_
  rw [e0,e1];rfl
theorem pieces_flat (p:Lb8) (hp:p.length=256):∀ m,m≤6→(refsN p m).flatMap layRf=(p.drop 1).take (37*m):=by
 intro m
 induction m with
 | zero=>intro _;rfl
 | succ m ih=>
  intro hm
  rw [refsN_succ,List.flatMap_append,ih (by omega)]
  have e:[rfOf (pieceN p m)].flatMap layRf=pieceN p m:=by
   rw [List.flatMap_cons,List.flatMap_nil,List.append_nil]
   exact lay_rfOf _ (piece_length p m hp (by omega))
  rw [e]
  unfold pieceN
  rw [show 37*(m+1)=37*m+37 by omega,List.take_add,List.drop_drop]
theorem body_page (p:Lb8) (hp:p.length=256) (m:Nat) (hm:m≤6) (h0:(p.getD 0 0).toNat=m):bodyN (refsN p m) m=p.take (1+37*m):=by
 have hl:=refsN_length p m
 unfold bodyN
 rw [hl,List.take_of_length_le (by rw [hl];exact Nat.le_refl _),pieces_flat p hp m hm]
 match p,hp with
 | x::t,_=>
  have hx:x.toNat=m:=h0
  have e:BitVec.ofNat 8 m=x:=by
   apply BitVec.eq_of_toNat_eq
   have:=x.isLt
   rw [BitVec.toNat_ofNat,hx]
   omega
  rw [e,Nat.add_comm 1,List.take_succ_cons];rfl
def zerosFrom (p:Lb8) (k:Nat):Prop:=∀ j,k≤j→j < p.length→p.getD j 0=0
theorem drop_zeros (p:Lb8) (k:Nat) (h:zerosFrom p k):p.drop k=List.replicate (p.length - k) 0:=by
 apply List.ext_getElem
 ·simp
 ·intro i h1 h2
  rw [List.getElem_drop,List.getElem_replicate]
  have hi:k+i < p.length:=by simp at h1;omega
  have:=h (k+i) (by omega) hi
  simpa [List.getD_eq_getElem?_getD,hi] using this
theorem places_ok (p:Lb8) (m:Nat) (h:∀ i,i < m→((pieceN p i).getD 0 0).toNat≤1):(refsN p m).all plOk=true:=by
 rw [List.all_eq_true]
 intro r hr
 obtain ⟨i,hi,rfl⟩:=List.mem_map.1 hr
 have h1:=h i (List.mem_range.1 hi)
 exact decide_eq_true (show 0≤(((pieceN p i).getD 0 0).toNat:Int)∧(((pieceN p i).getD 0 0).toNat:Int)≤1 by omega)
theorem allN_good (p:Lb8) (hp:p.length=256) (m:Nat) (h0:(p.getD 0 0).toNat=m) (h1:1≤m) (h6:m≤6) (hpl:∀ i,i < m→((pieceN p i).getD 0 0).toNat≤1) (hz:zerosFrom p (1+37*m)):allN p=(refsN p m,0):=by
 have hm:manyN p=m:=by unfold manyN;omega
 have hl:=refsN_length p m
 have hlay:layN (refsN p m)=(p,0):=by
  unfold layN
  rw [if_neg (by rw [hl,places_ok p m hpl];rintro (a | a | a);omega;omega;cases a),hl,body_page p hp m h6 h0]
  have e:=drop_zeros p (1+37*m) hz
  rw [hp] at e
  rw [←e,List.take_append_drop]
 unfold allN
 rw [if_neg (fun x=>x hp),hm,if_pos hlay]
theorem allN_few (p:Lb8) (hp:p.length=256) (h:(p.getD 0 0).toNat < 1∨6 < (p.getD 0 0).toNat):allN p=([],9):=by
 unfold allN
 rw [if_neg (fun x=>x hp)]
 refine if_neg (fun hl=>?_)
 have hm:=(lay_many hl).2
 have hr:=refsN_length p (manyN p)
 rw [hr] at hm
 unfold manyN at hm
 have h1:=(layN_ok hl).1
 rw [hr] at h1
 unfold manyN at h1
 omega
theorem allN_tail (p:Lb8) (hp:p.length=256) (m j:Nat) (h0:(p.getD 0 0).toNat=m) (h6:m≤6) (hj:1+37*m≤j) (_hj2:j < 256) (hne:p.getD j 0≠0):allN p=([],9):=by
 have hm:manyN p=m:=by unfold manyN;omega
 unfold allN
 rw [if_neg (fun x=>x hp),hm]
 refine if_neg (fun hl=>hne ?_)
 have hok:=(layN_ok hl).2.2
 have hr:=refsN_length p m
 rw [hr,body_page p hp m h6 h0] at hok
 rw [hok,List.getD_eq_getElem?_getD,List.getElem?_append_right (by rw [List.length_take];omega),List.getElem?_replicate]
 split <;> rfl
theorem allN_place (p:Lb8) (hp:p.length=256) (m i:Nat) (h0:(p.getD 0 0).toNat=m) (h6:m≤6) (hi:i < m) (h:1 < ((pieceN p i).getD 0 0).toNat):allN p=([],9):=by
 have hm:manyN p=m:=by unfold manyN;omega
 unfold allN
 rw [if_neg (fun x=>x hp),hm,bad_piece p i m hi h,if_neg (by intro e;injection e with _ e;cases e)]
end Sha
end Go.Proofs.YtddjdaocdfkgeaaGreatDoor
