/- The document's own turning of a word, bit by bit: its walk; turning by two is turning by their sum. The document's own product of two numbers of 64 bits, and its whole cube roots: their walks. | Plain mathematics: the primes below q as the document collects them, the first 64 of them, and that their cube roots' fractions are the listed constants. | The walk of the document's primes: an outer loop over the numbers, an inner one over those that were collected, an append to the call's own slice. -/
import Derived.Test.YtplmfmpbkjnbaaaGreatDoorBQ16
import Derived.BigGuardPart
set_option maxRecDepth 100000
set_option maxHeartbeats 1000000
namespace Go.Proofs.YtplmfmpbkjnbaaaGreatDoor
namespace Sha
open Go.RowKit Mem
def rN (x r:Nat):Nat:=x / 2 ^ r+x % 2 ^ r*2 ^ (32 - r)
theorem rotr_nat (x:BitVec 32) (r:Nat) (h:r < 32):(x.rotateRight r).toNat=rN x.toNat r:=by
 have e1:2 ^ 32=2 ^ r*2 ^ (32 - r):=by rw [←Nat.pow_add];congr 1;omega
 have e2:x.toNat*2 ^ (32 - r) % 2 ^ 32=x.toNat % 2 ^ r*2 ^ (32 - r):=by rw [e1,Nat.mul_mod_mul_right]
 have hlt:x.toNat / 2 ^ r < 2 ^ (32 - r):=by
  have:=x.isLt
  rw [e1] at this
  exact Nat.div_lt_of_lt_mul this
 rw [BitVec.toNat_rotateRight,Nat.mod_eq_of_lt h,Nat.shiftRight_eq_div_pow,Nat.shiftLeft_eq,e2,Nat.or_comm,Nat.mul_comm (x.toNat % 2 ^ r),←Nat.two_pow_add_eq_or_of_lt hlt,rN,Nat.add_comm,Nat.mul_comm (2 ^ (32 - r))]
theorem rN_step (x r:Nat) (h:r < 32):rN x r / 2+rN x r % 2*2147483648=rN x (r+1):=by
 have e1:2 ^ (32 - r)=2*2 ^ (31 - r):=by rw [←Nat.pow_succ'];congr 1;omega
 have e2:(2147483648:Nat)=2 ^ r*2 ^ (31 - r):=by
  rw [←Nat.pow_add,show r+(31 - r)=31 by omega]
 have e3:32 - (r+1)=31 - r:=by omega
 unfold rN
 rw [e1,e3,Nat.pow_succ 2 r,←Nat.div_div_eq_div_mul,show x % (2 ^ r*2)=x % 2 ^ (r+1) by rw [Nat.pow_succ],Nat.mod_pow_succ,e2]
 generalize x / 2 ^ r=a
 generalize x % 2 ^ r=b
 generalize 2 ^ (31 - r)=P
 generalize 2 ^ r=q
 have e4:b*(2*P)=2*(b*P):=by rw [Nat.mul_left_comm]
 rw [e4,Nat.add_mul_div_left _ _ (by decide),Nat.add_mul_mod_self_left,Nat.add_mul]
 have e5:q*(a % 2)*P=a % 2*(q*P):=by rw [Nat.mul_right_comm,Nat.mul_comm]
 rw [e5];omega
def st (x:BitVec 32):BitVec 32:=x.rotateRight 1
def it (x:BitVec 32):Nat→BitVec 32
 | 0=>x
 | k+1=>st (it x k)
theorem it_nat (x:BitVec 32):∀ k,k≤32→(it x k).toNat=rN x.toNat k
 | 0,_=>by simp [it,rN,Nat.mod_one]
 | k+1,h=>by
  have e0:rN (it x k).toNat 1=(it x k).toNat / 2+(it x k).toNat % 2*2147483648:=rfl
  rw [it,st,rotr_nat _ 1 (by decide),e0,it_nat x k (by omega),rN_step _ _ (by omega)]
theorem it_rotr (x:BitVec 32) (k:Nat) (h:k < 32):it x k=x.rotateRight k:=
 BitVec.eq_of_toNat_eq (by rw [it_nat x k (by omega),rotr_nat x k h])
theorem st_val (y:BitVec 32):V y / (2:Int)+V y % (2:Int)*(2147483648:Int)=V (y.rotateRight 1):=by
 have e0:rN y.toNat 1=y.toNat / 2+y.toNat % 2*2147483648:=rfl
 unfold V
 rw [rotr_nat y 1 (by decide),e0];omega
theorem st_val' (y:BitVec 32):(V y / (2:Int)+V y % (2:Int)*(2147483648:Int)) % (4294967296:Int)=V (y.rotateRight 1):=by
 rw [st_val];have:=V_lo (y.rotateRight 1);have:=V_hi (y.rotateRight 1);omega
theorem st_val3 (y:BitVec 32):((V y).tdiv 2 % (4294967296:Int)+V y % (2:Int)*(2147483648:Int)) % (4294967296:Int)=V (y.rotateRight 1):=by
 rw [←st_val',Int.tdiv_eq_ediv_of_nonneg (V_lo y)];omega
theorem rturn_any (x:BitVec 32) (n:Int) (r:Nat) (w:World) (hr:(n % 32).toNat=r) (_h0:-9223372036854775808≤n) (_h1:n≤9223372036854775807) :
 Calls Tryz.prog 157 #[.int .u32 (V x),.int .i64 n] w fun e w'=>e=.returned (.int .u32 (V (x.rotateRight r)))∧w=w':=by
 have ht:n.tmod 32=n % 32∨(n.tmod 32=n % 32 - 32∧n % 32≠0):=by
  rw [Int.tmod_eq_emod]
  split
  ·left;omega
  ·rename_i h
   right
   refine ⟨by simp,fun e=>h (Or.inr (Int.dvd_of_emod_eq_zero e))⟩
 have hr32:r < 32:=by omega
 obtain ⟨c,hc⟩:∃ c,c=n.tmod 32:=⟨_,rfl⟩
 have hcc:n.tmod 32=c:=hc.symm
 have hcl:-32 < c:=by omega
 have hch:c < 32:=by omega
 obtain ⟨d,hd⟩:∃ d,d=c+32:=⟨_,rfl⟩
 have hcd:c+32=d:=hd.symm
 have hd0:0 < d:=by omega
 have hd1:d < 64:=by omega
 have hdr:d % 32=(r:Int):=by omega
 clear hd
 have HR:=zh hr
 clear ht hc hr
 go_enter Tryz.func157,Tryz.ntmps157
 go_wp2_with fail
 rw [hdr]
 clear hdr hcd hcc
 go_loop [0,5] (fun v i=>∃ k:Nat,k≤r∧i=.int .i64 k∧v=.int .u32 (V (it x k))) (fun _ i=>r - (intOf i).toNat)
 case atStart=>exact ⟨0,by omega,rfl,rfl⟩
 case round=>
  obtain ⟨k,hk,rfl,rfl⟩:=hrel
  obtain ⟨y,hy⟩:∃ y,y=it x k:=⟨_,rfl⟩
  rw [←hy]
  have v0:=V_lo y
  have HY:=zh hy;clear hy
  by_cases hlt:k < r
  ·have hlt':(k:Int) < (r:Int):=by omega
   go_wp2
   go_round
   case rel=>exact ⟨k+1,by omega,by go_num,by rw [st_val3,it,st,←HY.out]⟩
   case measure=>simp [intOf];omega
  ·have hkr:k=r:=by omega
   have hge:¬ (k:Int) < (r:Int):=by omega
   have HKR:=zh hkr;clear hkr hlt
   go_wp2
   go_ret
   exact ⟨by rw [←it_rotr x r hr32,←HKR.out,←HY.out];rfl,rfl⟩
end Sha
end Go.Proofs.YtplmfmpbkjnbaaaGreatDoor
namespace Go.Proofs.YtplmfmpbkjnbaaaGreatDoor
namespace Sha
open Go.RowKit Mem
def w64 (x:Int):Int:=IntKind.u64.wrap x
def tLow (a b:Int):Int:=w64 (a % 4294967296*(b % 4294967296))
def tMid (a b:Int):Int:=w64 (w64 (w64 (a.tdiv 4294967296)*(b % 4294967296))+w64 ((tLow a b).tdiv 4294967296))
def tMid2 (a b:Int):Int:=w64 (w64 (a % 4294967296*w64 (b.tdiv 4294967296))+(tMid a b).tmod 4294967296)
def tHi (a b:Int):Int:=w64 (w64 (w64 (w64 (a.tdiv 4294967296)*w64 (b.tdiv 4294967296))+w64 ((tMid a b).tdiv 4294967296))+w64 ((tMid2 a b).tdiv 4294967296))
def tLo (a b:Int):Int:=w64 (w64 (tMid2 a b*4294967296)+(tLow a b).tmod 4294967296)
theorem w64_nonneg (x:Int):0≤w64 x:=by unfold w64;simp [IntKind.wrap,IntKind.bits,IntKind.signed];omega
theorem times_any (a b:Int) (w:World) (ha:0≤a) (hb:0≤b) :
 Calls Tryz.prog 177 #[.int .u64 a,.int .u64 b] w fun e w'=>e=.returned (.tuple #[.int .u64 (tHi a b),.int .u64 (tLo a b)])∧w=w':=by
 go_enter Tryz.func177,Tryz.ntmps177
 go_wp2
 go_ret2
 exact ⟨rfl,rfl⟩
def cubeOk (p x:Int):Bool:=
 let hi:=tHi x x
 let lo:=tLo x x
 let mid:=w64 (tHi lo x+tLo hi x)
 let top:=if mid < tHi lo x then w64 (tHi hi x+1) else tHi hi x
 top == 0 && (decide (mid < w64 (p*4294967296)) || (mid == w64 (p*4294967296) && tLo lo x == 0))
def cubeGo (p:Int):Nat→Int→Int
 | 0,r=>r
 | k+1,r=>cubeGo p k (if cubeOk p (w64 (r+w64 (2 ^ k))) then w64 (r+w64 (2 ^ k)) else r)
theorem cube_any (p:Int) (w:World) (_hp:0≤p) :
 Calls Tryz.prog 155 #[.int .u64 p] w fun e w'=>e=.returned (.int .u32 (cubeGo p 35 0 % 4294967296))∧w=w':=by
 obtain ⟨want,hw⟩:∃ want,want=w64 (p*4294967296):=⟨_,rfl⟩
 have hwant:IntKind.u64.wrap (p*4294967296)=want:=hw.symm
 have HW:=zh hw;clear hw
 go_enter Tryz.func155,Tryz.ntmps155
 go_wp2_with fail
 go_loop [3,4] (fun v3 v4=>∃ (m:Nat) (r:Int),m≤35∧v4=.int .i64 ((m:Int) - 1)∧v3=.int .u64 r∧0≤r∧cubeGo p m r=cubeGo p 35 0) (fun _ v4=>(intOf v4+1).toNat)
 case atStart=>exact ⟨35,0,by omega,rfl,rfl,by omega,rfl⟩
 case round=>
  obtain ⟨m,r,hm,rfl,rfl,hr,hgo⟩:=hrel
  have HGO:=zh hgo;clear hgo
  cases m with
  | zero=>
   have h35:cubeGo p 35 0=r:=by rw [←HGO.out];rfl
   have H35:=zh h35;clear h35
   go_wp2
   go_ret
   refine ⟨?_,rfl⟩
   rw [H35.out];rfl
  | succ k=>
   rw [show (((k+1:Nat):Int) - 1)=(k:Int) from by omega]
   obtain ⟨x,hx⟩:∃ x,x=w64 (r+w64 (2 ^ k)):=⟨_,rfl⟩
   have hx0:0≤x:=by rw [hx];exact w64_nonneg _
   have hxr:IntKind.u64.wrap (r+IntKind.u64.wrap (2 ^ k))=x:=hx.symm
   obtain ⟨hi,hhi⟩:∃ q,q=tHi x x:=⟨_,rfl⟩
   obtain ⟨lo,hlo⟩:∃ q,q=tLo x x:=⟨_,rfl⟩
   have hi0:0≤hi:=by rw [hhi];exact w64_nonneg _
   have lo0:0≤lo:=by rw [hlo];exact w64_nonneg _
   obtain ⟨h1,hh1⟩:∃ q,q=tHi lo x:=⟨_,rfl⟩
   obtain ⟨l1,hl1⟩:∃ q,q=tLo lo x:=⟨_,rfl⟩
   obtain ⟨h2,hh2⟩:∃ q,q=tHi hi x:=⟨_,rfl⟩
   obtain ⟨l2,hl2⟩:∃ q,q=tLo hi x:=⟨_,rfl⟩
   obtain ⟨mid,hmid⟩:∃ q,q=w64 (h1+l2):=⟨_,rfl⟩
   obtain ⟨u2,hu2⟩:∃ q,q=w64 (h2+1):=⟨_,rfl⟩
   have hmr:IntKind.u64.wrap (h1+l2)=mid:=hmid.symm
   have hur:IntKind.u64.wrap (h2+1)=u2:=hu2.symm
   have T1:Hid (∀ w,Calls Tryz.prog 177 #[.int .u64 x,.int .u64 x] w fun e w'=>e=.returned (.tuple #[.int .u64 hi,.int .u64 lo])∧w=w'):=fun w=>by rw [hhi,hlo];exact times_any x x w hx0 hx0
   have T2:Hid (∀ w,Calls Tryz.prog 177 #[.int .u64 lo,.int .u64 x] w fun e w'=>e=.returned (.tuple #[.int .u64 h1,.int .u64 l1])∧w=w'):=fun w=>by rw [hh1,hl1];exact times_any lo x w lo0 hx0
   have T3:Hid (∀ w,Calls Tryz.prog 177 #[.int .u64 hi,.int .u64 x] w fun e w'=>e=.returned (.tuple #[.int .u64 h2,.int .u64 l2])∧w=w'):=fun w=>by rw [hh2,hl2];exact times_any hi x w hi0 hx0
   have hok:cubeOk p x=((if mid < h1 then u2 else h2) == 0 && (decide (mid < want) || (mid == want && l1 == 0))):=by
    rw [hu2,hmid,hh1,hh2,hl1,hl2,hhi,hlo,HW.out];rfl
   have hstep:cubeGo p k (if cubeOk p x then x else r)=cubeGo p 35 0:=by rw [←HGO.out,hx];rfl
   have HOK:=zh hok;have HST:=zh hstep
   clear hx hhi hlo hh1 hl1 hh2 hl2 hmid hu2 hok hstep hi0 lo0
   by_cases hA:mid < h1
   ·skip
    cases hB:(u2 == 0)
    case false=>
     have hv:cubeOk p x=false:=by rw [HOK.out,if_pos hA,hB];rfl
     have HVV:=zh hv;clear hv
     go_wp2_with fail
     refine (T1.out _).mono ?_
     rintro e w1 ⟨rfl,rfl⟩
     go_wp2_with fail
     refine (T2.out _).mono ?_
     rintro e w1 ⟨rfl,rfl⟩
     go_wp2_with fail
     refine (T3.out _).mono ?_
     rintro e w1 ⟨rfl,rfl⟩
     go_wp2_with fail
     go_round
     case rel=>exact ⟨k,r,by omega,by go_num,rfl,by assumption,by have h:=HST.out;rw [HVV.out] at h;exact h⟩
     case measure=>simp [intOf] <;> omega
    case true=>
     cases hC:decide (mid < want)
     case true=>
      have hv:cubeOk p x=true:=by rw [HOK.out,if_pos hA,hB,hC];rfl
      have HVV:=zh hv;clear hv
      go_wp2_with fail
      refine (T1.out _).mono ?_
      rintro e w1 ⟨rfl,rfl⟩
      go_wp2_with fail
      refine (T2.out _).mono ?_
      rintro e w1 ⟨rfl,rfl⟩
      go_wp2_with fail
      refine (T3.out _).mono ?_
      rintro e w1 ⟨rfl,rfl⟩
      go_wp2_with fail
      go_round
      case rel=>exact ⟨k,x,by omega,by go_num,rfl,by assumption,by have h:=HST.out;rw [HVV.out] at h;exact h⟩
      case measure=>simp [intOf] <;> omega
     case false=>
      cases hD:(mid == want)
      case false=>
       have hv:cubeOk p x=false:=by rw [HOK.out,if_pos hA,hB,hC,hD];rfl
       have HVV:=zh hv;clear hv
       go_wp2_with fail
       refine (T1.out _).mono ?_
       rintro e w1 ⟨rfl,rfl⟩
       go_wp2_with fail
       refine (T2.out _).mono ?_
       rintro e w1 ⟨rfl,rfl⟩
       go_wp2_with fail
       refine (T3.out _).mono ?_
       rintro e w1 ⟨rfl,rfl⟩
       go_wp2_with fail
       go_round
       case rel=>exact ⟨k,r,by omega,by go_num,rfl,by assumption,by have h:=HST.out;rw [HVV.out] at h;exact h⟩
       case measure=>simp [intOf] <;> omega
      case true=>
       cases hE:(l1 == 0)
       case false=>
        have hv:cubeOk p x=false:=by rw [HOK.out,if_pos hA,hB,hC,hD,hE];rfl
        have HVV:=zh hv;clear hv
        go_wp2_with fail
        refine (T1.out _).mono ?_
        rintro e w1 ⟨rfl,rfl⟩
        go_wp2_with fail
        refine (T2.out _).mono ?_
        rintro e w1 ⟨rfl,rfl⟩
        go_wp2_with fail
        refine (T3.out _).mono ?_
        rintro e w1 ⟨rfl,rfl⟩
        go_wp2_with fail
        go_round
        case rel=>exact ⟨k,r,by omega,by go_num,rfl,by assumption,by have h:=HST.out;rw [HVV.out] at h;exact h⟩
        case measure=>simp [intOf] <;> omega
       case true=>
        have hv:cubeOk p x=true:=by rw [HOK.out,if_pos hA,hB,hC,hD,hE];rfl
        have HVV:=zh hv;clear hv
        go_wp2_with fail
        refine (T1.out _).mono ?_
        rintro e w1 ⟨rfl,rfl⟩
        go_wp2_with fail
        refine (T2.out _).mono ?_
        rintro e w1 ⟨rfl,rfl⟩
        go_wp2_with fail
        refine (T3.out _).mono ?_
        rintro e w1 ⟨rfl,rfl⟩
        go_wp2_with fail
        go_round
        case rel=>exact ⟨k,x,by omega,by go_num,rfl,by assumption,by have h:=HST.out;rw [HVV.out] at h;exact h⟩
        case measure=>simp [intOf] <;> omega
   ·skip
    cases hB:(h2 == 0)
    case false=>
     have hv:cubeOk p x=false:=by rw [HOK.out,if_neg hA,hB];rfl
     have HVV:=zh hv;clear hv
     go_wp2_with fail
     refine (T1.out _).mono ?_
     rintro e w1 ⟨rfl,rfl⟩
     go_wp2_with fail
     refine (T2.out _).mono ?_
     rintro e w1 ⟨rfl,rfl⟩
     go_wp2_with fail
     refine (T3.out _).mono ?_
     rintro e w1 ⟨rfl,rfl⟩
     go_wp2_with fail
     go_round
     case rel=>exact ⟨k,r,by omega,by go_num,rfl,by assumption,by have h:=HST.out;rw [HVV.out] at h;exact h⟩
     case measure=>simp [intOf] <;> omega
    case true=>
     cases hC:decide (mid < want)
     case true=>
      have hv:cubeOk p x=true:=by rw [HOK.out,if_neg hA,hB,hC];rfl
      have HVV:=zh hv;clear hv
      go_wp2_with fail
      refine (T1.out _).mono ?_
      rintro e w1 ⟨rfl,rfl⟩
      go_wp2_with fail
      refine (T2.out _).mono ?_
      rintro e w1 ⟨rfl,rfl⟩
      go_wp2_with fail
      refine (T3.out _).mono ?_
      rintro e w1 ⟨rfl,rfl⟩
      go_wp2_with fail
      go_round
      case rel=>exact ⟨k,x,by omega,by go_num,rfl,by assumption,by have h:=HST.out;rw [HVV.out] at h;exact h⟩
      case measure=>simp [intOf] <;> omega
     case false=>
      cases hD:(mid == want)
      case false=>
       have hv:cubeOk p x=false:=by rw [HOK.out,if_neg hA,hB,hC,hD];rfl
       have HVV:=zh hv;clear hv
       go_wp2_with fail
       refine (T1.out _).mono ?_
       rintro e w1 ⟨rfl,rfl⟩
       go_wp2_with fail
       refine (T2.out _).mono ?_
       rintro e w1 ⟨rfl,rfl⟩
       go_wp2_with fail
       refine (T3.out _).mono ?_
       rintro e w1 ⟨rfl,rfl⟩
       go_wp2_with fail
       go_round
       case rel=>exact ⟨k,r,by omega,by go_num,rfl,by assumption,by have h:=HST.out;rw [HVV.out] at h;exact h⟩
       case measure=>simp [intOf] <;> omega
      case true=>
       cases hE:(l1 == 0)
       case false=>
        have hv:cubeOk p x=false:=by rw [HOK.out,if_neg hA,hB,hC,hD,hE];rfl
        have HVV:=zh hv;clear hv
        go_wp2_with fail
        refine (T1.out _).mono ?_
        rintro e w1 ⟨rfl,rfl⟩
        go_wp2_with fail
        refine (T2.out _).mono ?_
        rintro e w1 ⟨rfl,rfl⟩
        go_wp2_with fail
        refine (T3.out _).mono ?_
        rintro e w1 ⟨rfl,rfl⟩
        go_wp2_with fail
        go_round
        case rel=>exact ⟨k,r,by omega,by go_num,rfl,by assumption,by have h:=HST.out;rw [HVV.out] at h;exact h⟩
        case measure=>simp [intOf] <;> omega
       case true=>
        have hv:cubeOk p x=true:=by rw [HOK.out,if_neg hA,hB,hC,hD,hE];rfl
        have HVV:=zh hv;clear hv
        go_wp2_with fail
        refine (T1.out _).mono ?_
        rintro e w1 ⟨rfl,rfl⟩
        go_wp2_with fail
        refine (T2.out _).mono ?_
        rintro e w1 ⟨rfl,rfl⟩
        go_wp2_with fail
        refine (T3.out _).mono ?_
        rintro e w1 ⟨rfl,rfl⟩
        go_wp2_with fail
        go_round
        case rel=>exact ⟨k,x,by omega,by go_num,rfl,by assumption,by have h:=HST.out;rw [HVV.out] at h;exact h⟩
        case measure=>simp [intOf] <;> omega
end Sha
end Go.Proofs.YtplmfmpbkjnbaaaGreatDoor
namespace Go.Proofs.YtplmfmpbkjnbaaaGreatDoor
namespace Sha
def pr:Nat→List Nat
 | 0=>[]
 | q+1=>if 2≤q∧(pr q).all (fun d=>q % d != 0) then pr q++[q] else pr q
theorem pr_step (q:Nat):pr (q+1)=pr q∨pr (q+1)=pr q++[q]:=by
 rw [pr];split
 ·exact Or.inr rfl
 ·exact Or.inl rfl
theorem pr_mono (q:Nat):∀ k,∃ l,pr (q+k)=pr q++l
 | 0=>⟨[],by simp⟩
 | k+1=>by
  obtain ⟨l,h⟩:=pr_mono q k
  rcases pr_step (q+k) with e | e
  ·exact ⟨l,by rw [←Nat.add_assoc,e,h]⟩
  ·exact ⟨l++[q+k],by rw [←Nat.add_assoc,e,h,List.append_assoc]⟩
theorem pr_312:(pr 312).length=64:=by decide +kernel
theorem pr_lt (q:Nat) (h:(pr q).length < 64):q < 312:=by
 rcases Nat.lt_or_ge q 312 with h' | h'
 ·exact h'
 ·obtain ⟨l,e⟩:=pr_mono 312 (q - 312)
  rw [show 312+(q - 312)=q by omega] at e
  have:=pr_312
  rw [e,List.length_append] at h
  omega
theorem pr_pos:∀ (q d:Nat),d∈pr q→2≤d
 | 0,_,h=>by simp [pr] at h
 | q+1,d,h=>by
  rw [pr] at h
  split at h
  ·rename_i hq
   rcases List.mem_append.1 h with h | h
   ·exact pr_pos q d h
   ·simp at h;omega
  ·exact pr_pos q d h
theorem pr_at (q t:Nat) (hq:q≤312) (ht:t < (pr q).length):(pr q).getD t 0=(pr 312).getD t 0:=by
 obtain ⟨l,e⟩:=pr_mono q (312 - q)
 rw [show q+(312 - q)=312 by omega] at e
 rw [e]
 simp [List.getD_eq_getElem?_getD,List.getElem?_append,ht]
theorem cubes:(List.range 64).all (fun t=>cubeGo (((pr 312).getD t 0:Nat):Int) 35 0 % (4294967296:Int) == V (Kl.getD t 0))=true:=by decide +kernel
theorem cube_at (t:Nat) (h:t < 64):cubeGo (((pr 312).getD t 0:Nat):Int) 35 0 % (4294967296:Int)=V (Kl.getD t 0):=by
 have:=List.all_eq_true.1 cubes t (List.mem_range.2 h)
 simpa using this
end Sha
end Go.Proofs.YtplmfmpbkjnbaaaGreatDoor
namespace Go.Proofs.YtplmfmpbkjnbaaaGreatDoor
namespace Sha
open Go.RowKit Mem
def u64s (l:List Nat):List Value:=l.map fun (d:Nat)=>Value.int .u64 (d:Int)
theorem own_open {w:World} {base:Nat} {e:TypeId} {v:Value} {l:List Nat} (h:w.ownsRow base e 1 v l.length (u64s l)) :
 ∃ a cap,v=.slice a l.length cap∧∀ i,i < l.length→∃ g,a=some ⟨g,0,none⟩∧w.cell? ⟨g,i,none⟩=some (.int .u64 ((l.getD i 0:Nat):Int)):=by
 obtain ⟨_,h | ⟨g,cap,cur,rfl,hg,hh,hn,hc,hs,ht⟩⟩:=h
 ·obtain ⟨rfl,h0⟩:=h
  exact ⟨none,0,by rw [h0],fun i hi=>by omega⟩
 ·refine ⟨_,cap,rfl,fun i hi=>⟨g,rfl,?_⟩⟩
  rw [cell_of_row w g i cur e (0,0) hh]
  have h1:(cur.toList.take (l.length*1))[i]?=(u64s l)[i]?:=by rw [ht]
  rw [List.getElem?_take,if_pos (by omega)] at h1
  rw [←Array.getElem?_toList,h1]
  simp [u64s,hi]
theorem take_all (l:List Nat) (q k:Nat) (h:k < l.length):((l.take (k+1)).all (fun d=>q % d != 0))=(((l.take k).all (fun d=>q % d != 0)) && (q % l.getD k 0 != 0)):=by
 have e:l.getD k 0=l[k]:=by simp [h]
 rw [List.take_succ_eq_append_getElem h,e,List.all_append];simp
theorem ne_cast (q d:Nat):(((q:Int) % (d:Int)) != 0)=(q % d != 0):=by
 rw [←Int.natCast_emod,Bool.eq_iff_iff];simp;omega
theorem pr_yes (q:Nat) (h2:2≤q) (h:(pr q).all (fun d=>q % d != 0)=true):pr (q+1)=pr q++[q]:=by
 rw [pr,if_pos ⟨h2,h⟩]
theorem pr_no (q:Nat) (h:(pr q).all (fun d=>q % d != 0)=false):pr (q+1)=pr q:=by
 rw [pr,if_neg (by rw [h];simp)]
theorem info64u:(Tryz.prog.info? 210).map (fun i=>(i.zero,i.size,i.bytes))=some (some (.int .u64 0),1,8):=by kernel_rfl
def PRel (w:World) (v p:Value) (wr:World):Prop:=
 ∃ q:Nat,2≤q∧q≤312∧p=.int .u64 (q:Int)∧wr.ownsRow w.heap.size 210 1 v (pr q).length (u64s (pr q))∧Below w.heap.size w wr
def PEnd (n:Nat) (w:World) (e:Ending) (w':World):Prop:=
 ∃ v q,e=.returned v∧q≤312∧n≤(pr q).length∧w'.ownsRow w.heap.size 210 1 v (pr q).length (u64s (pr q))∧Below w.heap.size w w'
theorem primes_any (n:Nat) (hn:n≤64) (w:World):Calls Tryz.prog 154 #[.int .i64 (n:Int)] w (PEnd n w):=by
 go_enter Tryz.func154,Tryz.ntmps154
 go_wp2_with fail
 go_loopw [3,4,5,6] (fun v p _ _ wr=>PRel w v p wr) (fun _ p _ _ _=>(312 - intOf p).toNat)
 case atStart=>exact ⟨2,by omega,by omega,rfl,by have h:=World.ownsRow_nil w w.heap.size 210 1;exact h,Below.refl _ _⟩
 case round=>
  obtain ⟨q,hq2,hq,rfl,hown,hb⟩:=hrel
  obtain ⟨a,cap,rfl,hcell⟩:=own_open hown
  obtain ⟨L,hL⟩:∃ L,L=(pr q).length:=⟨_,rfl⟩
  have hown':=hown
  rw [←hL] at hown' ⊢
  by_cases hlt:L < n
  ·have hq':q < 312:=pr_lt q (by omega)
   have HCE:=zh hcell;have HOWN:=zh hown';have HB:=zh hb;have HLL:=zh hL
   clear hcell hown hown' hb hL
   go_wp2_with fail
   obtain ⟨wo,rfl⟩:∃ wo:World,wo=wr:=⟨_,rfl⟩
   go_loop [5,6] (fun b i=>∃ k:Nat,k≤L∧i=.int .i64 k∧b=.bool (((pr q).take k).all (fun d=>q % d != 0))) (fun _ i=>L - (intOf i).toNat)
   case atStart=>exact ⟨0,by omega,rfl,by simp⟩
   case round=>
    obtain ⟨k,hk,rfl,rfl⟩:=hrel
    obtain ⟨b,hbb⟩:∃ b,b=((pr q).take k).all (fun d=>q % d != 0):=⟨_,rfl⟩
    rw [←hbb]
    have HBB:=zh hbb;clear hbb
    by_cases hkl:k < L
    ·obtain ⟨g,rfl,hc⟩:=HCE.out k (by rw [←HLL.out];exact hkl)
     obtain ⟨d,hd⟩:∃ d,d=(pr q).getD k 0:=⟨_,rfl⟩
     rw [←hd] at hc
     have hd2:2≤d:=by
      rw [hd]
      have hk':k < (pr q).length:=by rw [←HLL.out];exact hkl
      refine pr_pos q _ ?_
      rw [List.getD_eq_getElem?_getD,List.getElem?_eq_getElem hk'];exact List.getElem_mem hk'
     have HD:=zh hd;clear hd
     cases b
     ·go_wp2
      go_round
      case rel=>exact ⟨k+1,by omega,by go_num,by rw [take_all _ _ _ (by rw [←HLL.out];exact hkl),←HBB.out];rfl⟩
      case measure=>simp [intOf];omega
     ·go_wp2
      go_round
      case rel=>exact ⟨k+1,by omega,by go_num,by rw [take_all _ _ _ (by rw [←HLL.out];exact hkl),←HBB.out,←HD.out,ne_cast];rfl⟩
      case measure=>simp [intOf];omega
    ·have hkL:k=L:=by omega
     have hall:(pr q).all (fun d=>q % d != 0)=b:=by
      rw [HBB.out,hkL,HLL.out,List.take_length]
     have hge:¬ (k:Int) < (L:Int):=by omega
     have HALL:=zh hall;have HBW:=HB
     clear hkL hkl hall
     cases b
     ·go_wp2_with fail
      go_roundw
      case rel=>
       refine ⟨q+1,by omega,by omega,by go_num,?_,HB.out⟩
       rw [pr_no q HALL.out,←HLL.out];exact HOWN.out
      case measure=>simp [intOf];omega
     ·obtain ⟨i0,hi,hz0,hz1,hz2⟩:=info_parts info64u
      have HI0:=zh hi;have HZ0:=zh hz0;have HZ1:=zh hz1;have HZ2:=zh hz2
      clear hi hz0 hz1 hz2
      go_wp2_with (at_builtin;go_loud (refine wpList_append_own _ zr _ _ 236 zr w.heap.size 210 i0 (.int .u64 0) 1 8 Tryz.underlying236 HI0.out HZ0.out HZ1.out HZ2.out zr (by decide) _ L _ zr (HOWN.out.alloc _) ⟨wo.heap.size,0,none⟩ 1 1 [.int .u64 (q:Int)] zr zr ?c1 ?c2 ?c3 ?c4 ?c5 ?_))
      case c2=>first | rfl | simp [Value.oneCell'] | (intro u hu;simp at hu;subst hu;rfl)
      case c3=>first | omega | (unfold maxLen;omega) | (simp [maxLen];omega)
      case c4=>first | omega | (simp;omega)
      case c5=>have:=HB.out.size;first | omega | (simp;omega)
      ·intro v' w1 hown1 hgrow _
       have HO1:=zh hown1;have HG1:=zh hgrow
       clear hown1 hgrow
       go_wp2_with fail
       go_roundw
       case rel=>
        have hlen:(pr q++[q]).length=L+1:=by rw [List.length_append,←HLL.out];rfl
        have hu:u64s (pr q++[q])=u64s (pr q)++[Value.int .u64 (q:Int)]:=by simp [u64s]
        refine ⟨q+1,by omega,by omega,by go_num,?_,?_⟩
        ·rw [pr_yes q hq2 HALL.out,hlen,hu];exact HO1.out
        ·have hal:Below w.heap.size w (wo.alloc (.cells #[.int .u64 (q:Int)] 210)):=HB.out.alloc HB.out.size _
         exact hal.grown HG1.out hal.size (fun g hg=>(HOWN.out.lt g hg).1)
       case measure=>simp [intOf];omega
  ·have hge:¬ (L:Int) < (n:Int):=by omega
   have HOWN:=zh hown;have HB:=zh hb;have HLL:=zh hL
   clear hcell hown hown' hb hL
   go_wp2_with fail
   go_ret
   exact ⟨_,q,rfl,hq,by rw [←HLL.out];omega,by first | exact HOWN.out | (have h:=HOWN.out;rw [←HLL.out] at h ⊢;exact h),HB.out⟩
end Sha
end Go.Proofs.YtplmfmpbkjnbaaaGreatDoor
