/- Package dev's small functions, and the copies of the library's: walks. Package dev: New, note, Bytes, Trace, Waiting: walks. -/
import Derived.Test.YtlhnegbjoncieaaGreatDoorBL14
import Derived.Test.YtlhnegbjoncieaaGreatDoorBL09
import Derived.Test.YtlhnegbjoncieaaGreatDoorBL24
set_option maxRecDepth 100000
set_option maxHeartbeats 1000000
namespace Go.Proofs.YtlhnegbjoncieaaGreatDoor
namespace Sha
open Go.RowKit Mem
theorem plen_any (br bb n:Nat) (vw vs vt:Value) (w:World) (hrow:At w br (pRow bb n vw vs vt) 142) (hn:n≤1024) :
 Calls Tryz.prog 98 #[rq br] w fun e w'=>e=.returned (.int .i64 (n:Int))∧w=w':=by
 obtain ⟨L,hL⟩:∃ L,L=n*256:=⟨_,rfl⟩
 have c0:w.cell? ⟨br,0,none⟩=some (.slice (some ⟨bb,0,none⟩) L L):=by rw [hrow.cell,hL];rfl
 have hd:(L:Int) / 256=(n:Int):=by omega
 have hb:L≤1000000:=by omega
 have HD:=zh hd
 clear hrow hL hd
 go_enter Tryz.func98,Tryz.ntmps98
 go_wp2_with fail
 go_ret
 exact ⟨by rw [HD.out];rfl,rfl⟩
theorem pmade_any (br bb n:Nat) (vw vs vt:Value) (w:World) (hrow:At w br (pRow bb n vw vs vt) 142) (hn:n≤1024) (h1:1≤n) :
 Calls Tryz.prog 63 #[rq br] w fun e w'=>e=.returned (.bool true)∧w=w':=by
 have hl:=plen_any br bb n vw vs vt w hrow hn
 have HL:=zh hl
 have g1:decide (0 < n)=true:=decide_eq_true (by omega)
 have G1:=zh g1
 clear hl hrow g1
 go_enter Tryz.func63,Tryz.ntmps63
 go_wp2_with fail
 refine HL.out.mono ?_
 rintro o w' ⟨rfl,rfl⟩
 go_wp2_with fail
 go_ret
 exact ⟨by rw [G1.out];rfl,rfl⟩
theorem pcheck_good (br bb n q:Nat) (vw vs vt:Value) (w:World) (hrow:At w br (pRow bb n vw vs vt) 142) (hn:n≤1024) (hq:q < n) :
 Calls Tryz.prog 71 #[rq br,.int .i64 (q:Int)] w fun e w'=>e=.returned (.int .i64 0)∧w=w':=by
 have hl:=plen_any br bb n vw vs vt w hrow hn
 have hm:=pmade_any br bb n vw vs vt w hrow hn (by omega)
 have HL:=zh hl;have HM:=zh hm
 have g1:¬ (n:Int)≤(q:Int):=by omega
 clear hl hm hrow
 go_enter Tryz.func71,Tryz.ntmps71
 go_wp2_with fail
 refine HM.out.mono ?_
 rintro o w' ⟨rfl,rfl⟩
 go_wp2_with fail
 refine HL.out.mono ?_
 rintro o w' ⟨rfl,rfl⟩
 go_wp2_with fail
 go_ret
 exact ⟨rfl,rfl⟩
theorem pcheck_bad (br bb n:Nat) (q:Int) (vw vs vt:Value) (w:World) (hrow:At w br (pRow bb n vw vs vt) 142) (hn:n≤1024) (h1:1≤n) (hq:q < 0∨(n:Int)≤q) :
 Calls Tryz.prog 71 #[rq br,.int .i64 q] w fun e w'=>e=.returned (.int .i64 1)∧w=w':=by
 have hl:=plen_any br bb n vw vs vt w hrow hn
 have hm:=pmade_any br bb n vw vs vt w hrow hn h1
 have HL:=zh hl;have HM:=zh hm
 clear hl hm hrow
 by_cases h0:q < 0
 ·clear hq
  go_enter Tryz.func71,Tryz.ntmps71
  go_wp2_with fail
  refine HM.out.mono ?_
  rintro o w' ⟨rfl,rfl⟩
  go_wp2_with fail
  go_ret
  exact ⟨rfl,rfl⟩
 ·have g1:(n:Int)≤q:=by omega
  clear hq
  go_enter Tryz.func71,Tryz.ntmps71
  go_wp2_with fail
  refine HM.out.mono ?_
  rintro o w' ⟨rfl,rfl⟩
  go_wp2_with fail
  refine HL.out.mono ?_
  rintro o w' ⟨rfl,rfl⟩
  go_wp2_with fail
  go_ret
  exact ⟨rfl,rfl⟩
theorem pblk_any (br bb n q:Nat) (vw vs vt:Value) (w:World) (hrow:At w br (pRow bb n vw vs vt) 142) (hn:n≤1024) (hq:q < n) :
 Calls Tryz.prog 72 #[rq br,.int .i64 (q:Int)] w fun e w'=>e=.returned (.slice (some ⟨bb,q*256,none⟩) 256 (n*256 - q*256))∧w=w':=by
 obtain ⟨L,hL⟩:∃ L,L=n*256:=⟨_,rfl⟩
 rw [←hL]
 have c0:w.cell? ⟨br,0,none⟩=some (.slice (some ⟨bb,0,none⟩) L L):=by rw [hrow.cell,hL];rfl
 have g1:q*256+256≤L:=by omega
 clear hrow hL
 go_enter Tryz.func72,Tryz.ntmps72
 go_wp2_with (refine Mem.wpList_slice_mid zr 31 _ _ _ zr 5 Tryz.underlying31 infoB bb 0 L L (q*256) ((q+1)*256) zr zr zr (by omega) (by omega) (by omega) ?_)
 go_ret
 exact ⟨by rw [show (q+1)*256 - q*256=256 by omega];rfl,rfl⟩
theorem i64s_snoc (l:List Int) (n:Int):i64s l++[.int .i64 n]=i64s (l++[n]):=by simp [i64s]
theorem pv_note {F D:Foot} {br bb:Nat} {w w1 w2:World} {s:St6} {vw vs vt vt':Value} {n:Int} (h:PV F D br bb w s vw vs vt) (ho:w1.ownsRow 0 3 1 vt' (s.t.length+1) (i64s s.t++[.int .i64 n])) (ha:App w w1 vt vt') (hb:Below 0 w w1)
 (hA:At w2 br (pRow bb s.n vw vs vt') 142) (hk2:∀ k,k≠br→w2.heap[k]?=w1.heap[k]?) (hk:∀ B a,Below B a w1→B≤br→Below B a w2):StEnd PSt F br w { s with t:=s.t++[n] } w2:=by
 have h1:=pm_trace (l:=s.t++[n]) h.m h.blt ⟨_,h.row⟩ ha (by rw [List.length_append,←i64s_snoc];exact ho)
 obtain ⟨h3,h4⟩:=pv_set (s':={ s with t:=s.t++[n] }) h rfl (ha.chg hb fun k e=>(h.m.ot k e).1) hA hk2 hk h1 (fun k hk _=>hk)
 exact pv_end h3 h4
theorem pnote_any {F:Foot} {br:Nat} {s:St6} (n:Int) (w:World) (hr:PSt F br w s) (ht:s.t.length≤1001) :
 Calls Tryz.prog 81 #[rq br,.int .i64 n] w fun e w'=>e=.returned (.tuple #[])∧StEnd PSt F br w { s with t:=s.t++[n] } w':=by
 obtain ⟨D,bb,vw,vs,vt,hv⟩:=hr
 obtain ⟨at4,c4,rfl⟩:=hv.t_hd
 obtain ⟨L,hL⟩:∃ L,L=s.t.length:=⟨_,rfl⟩
 obtain ⟨N,hN⟩:∃ N,N=s.n:=⟨_,rfl⟩
 have hrow:=hv.row
 have hne:=own_ne_at hv.m.ht hv.row (by decide)
 have hown:=ownsRow_below hv.m.ht ((Below.refl _ _).alloc (Nat.le_refl _) (.cells #[.int .i64 n] 3))
 rw [←hL] at hrow ht hv hown hne
 rw [←hN] at hrow
 have c3:w.cell? ⟨br,3,none⟩=some (.slice at4 L c4):=by rw [hrow.cell];rfl
 have g1:¬ (L:Int)=100000:=by omega
 have hal:Below w.heap.size w (w.alloc (.cells #[.int .i64 n] 3)):=(Below.refl _ _).alloc (Nat.le_refl _) _
 have HV:=zh hv;have HROW:=zh hrow;have HO:=zh hown;have HB:=zh hal;have HNE:=zh hne;have HL:=zh hL;have HN:=zh hN
 clear hv hrow hown hal hne hL hN
 go_enter Tryz.func81,Tryz.ntmps81
 go_wp2_with (first
  | (at_builtin;go_loud (refine wpList_append_app zr _ _ 61 zr (.slice (some ⟨w.heap.size,0,none⟩) 1 1) L 1 1 [.int .i64 n] (.int .i64 0) 8 elemRI zr (by decide) zr HO.out zr (by exact rdR_new (e:=3) (C:=#[.int .i64 n])) (by simp [Value.oneCell']) (by omega) (by omega) (by omega) ?_;intro v5 w5 ho5 ha5 hb5;obtain ⟨a5,c5,rfl⟩:=rows_hd ho5;have O5:=zh ho5;have A5:Hid (App w w5 (.slice at4 L c4) (.slice a5 (L+1) c5)):=ha5.after HB.out;have B5:Hid (Below 0 w w5):=(HB.out.mono (Nat.zero_le _)).trans hb5;have R5:Hid (At w5 br _ _):=at_appd HROW.out A5.out HNE.out;clear ho5 ha5 hb5))
  | (refine Mem.wpList_store_one zr 61 _ _ zr zr br 3 (.slice a5 (L+1) c5) zr zr zr infoInts _ 142 R5.out (by simp [pRow]) ?_;intro w8 ha ho hk;have R8:Hid (StEnd PSt F br w { s with t:=s.t++[n] } w8):=pv_note HV.out (by rw [←HL.out];exact O5.out) A5.out B5.out (by rw [←HN.out];exact ha) ho hk;clear ha ho hk))
 go_end0
 exact ⟨rfl,R8.out⟩
end Sha
end Go.Proofs.YtlhnegbjoncieaaGreatDoor
