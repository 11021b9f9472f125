/- My own texts, merged. -/
import Derived.Test.YtajdpbbbocnfiaaGreatDoorBm31
import Derived.Test.YtajdpbbbocnfiaaGreatDoorBm23
import Derived.Test.YtajdpbbbocnfiaaGreatDoorBm03
import Derived.Test.YtajdpbbbocnfiaaGreatDoorBm34
import Derived.Deep.Cut
import Derived.Test.YtajdpbbbocnfiaaGreatDoorBm35
namespace Go.Proofs.YtajdpbbbocnfiaaGreatDoor
namespace Sha
open Go.RowKit Mem
theorem OwnV.wl' {w : World} {B : Nat} {e : TypeId} {v : Value} {l : List (BitVec 32)} (h : OwnV w B e v (u32s l)) (hl : 0 < l.length) : Wl w v l := by
 obtain ⟨a, c, rfl, _, hr⟩ := h.open
 obtain ⟨g, rfl, _, hg, hc⟩ := hr (by intro e; rw [← u32s_length, e] at hl; simp at hl)
 exact ⟨g, c, by rw [u32s_length], hg, fun i hi => hc i _ (u32s_get l i hi)⟩
theorem Wl.below {w w' : World} {v : Value} {l : List (BitVec 32)} (h : Wl w v l) (hb : Below w.heap.size w w') : Wl w' v l := by
 obtain ⟨g, c, rfl, hg, hc⟩ := h
 exact ⟨g, c, rfl, Nat.lt_of_lt_of_le hg hb.size, fun i hi => (hb.cell (p := ⟨g, i, none⟩) hg).trans (hc i hi)⟩
theorem comps_length (T : List (BitVec 8)) : ∀ j, (comps IVl T j).length = 8
 | 0 => by show IVl.length = 8; decide
 | j + 1 => by rw [comps]; exact comp_len _ _ (comps_length T j)
def dByte (l : List (BitVec 32)) (i : Nat) : BitVec 8 := wb (l.getD (i / 4) 0) (24 - 8 * (i % 4))
def oRow (l : List (BitVec 32)) (i : Nat) : List (BitVec 8) := (List.range i).map (dByte l) ++ List.replicate (32 - i) 0
theorem oRow_all (l : List (BitVec 32)) : oRow l 32 = dRow l 8 := by kernel_rfl
theorem oRow_length (l : List (BitVec 32)) (i : Nat) (h : i ≤ 32) : (oRow l i).length = 32 := by simp [oRow]; omega
theorem oRow_set (l : List (BitVec 32)) (i : Nat) (h : i < 32) : (oRow l i).set i (dByte l i) = oRow l (i + 1) := by
 unfold oRow
 rw [List.set_append_right _ _ (by simp), show 32 - i = (32 - (i + 1)) + 1 by omega, List.replicate_succ, List.range_succ]
 simp
theorem wb_pow (x : BitVec 32) (k : Nat) : V x / 2 ^ k % 256 = ((wb x k).toNat : Int) := wb_val x k _ (by simp)
def BRel (w2 : World) (T : List (BitVec 8)) (m : Nat) (vs i : Value) (wr : World) : Prop :=
 ∃ j : Nat, j ≤ m ∧ i = .int .i64 (64 * (j : Int)) ∧ Wl wr vs (comps IVl T j) ∧ Below w2.heap.size w2 wr
set_option maxRecDepth 100000 in
set_option maxHeartbeats 1000000 in
theorem rsum_any (b : List (BitVec 8)) (v : Value) (w : World) (hb : Sl w v b) (lb : b.length ≤ 1099511627776) :
 Calls Tryz.prog 70 #[v] w fun e w' => e = .returned (.agg (dgOf b)) ∧ Below w.heap.size w w' := by
 have ALL := zh (fun w => all_any w)
 have PAD := zh (fun wx hx => pad_ref b v wx (hb.below hx) lb)
 obtain ⟨m, hm⟩ := padded_mod b.length
 obtain ⟨T, hT⟩ : ∃ T, T = b ++ padBytes b.length := ⟨_, rfl⟩
 have hTl : T.length = 64 * m := by rw [hT, List.length_append, hm]
 have hdg : dgOf b = (u8s (oRow (comps IVl T m) 32)).toArray := by rw [oRow_all, dgOf, hT, digest_comps b m (by rw [← hT, hTl])]
 rw [hdg]
 rw [← hT] at PAD
 have TL := zh hTl
 have hm2 : 64 * m ≤ 1099511628000 := by
  have := padBytes_length b.length
  have h2 := padQ_bd (b.length % 64) (Nat.mod_lt _ (by decide))
  rw [this] at hm
  omega
 clear hdg hT hTl hm lb hb
 go_enter Tryz.func70, Tryz.ntmps70
 go_wp2_with fail
 generalize hw0 : w.alloc _ = w0
 have at0 : At w0 w.heap.size Z32 22 := by rw [← hw0]; exact at_new w Z32 _
 have bl0 : Below w.heap.size w w0 := by rw [← hw0]; exact (Below.refl _ _).alloc (Nat.le_refl _) _
 have A0 := zh at0; have BL0 := zh bl0
 clear at0 bl0 hw0
 refine (ALL.out _).mono ?_
 rintro e w1 ⟨vk, vf, rfl, hok, hof, hb1⟩
 have WK := zh (OwnV.wl' hok (by decide)); have WF := zh (OwnV.wl' hof (by decide)); have BL1 := zh (BL0.out.trans (hb1.mono BL0.out.size)); have A1 := zh (A0.out.below hb1 A0.out.lt)
 clear hok hof hb1
 go_wp2_with fail
 refine (PAD.out _ BL1.out).mono ?_
 rintro e w2 ⟨vp, rfl, hop, hb2⟩
 obtain ⟨ap, cp, rfl, hcp, hpc⟩ := hop.open
 have WK2 := zh (Wl.below WK.out hb2); have WF2 := zh (Wl.below WF.out hb2); have BL2 := zh (BL1.out.trans (hb2.mono BL1.out.size)); have A2 := zh (A1.out.below hb2 A1.out.lt)
 rw [TL.out] at hcp ⊢
 have PC := zh hpc; have CP := zh hcp
 clear WK WF A1 BL1 BL0 A0 hb2 hop hpc hcp ALL PAD
 go_wp2_with fail
 go_loopw [4, 6] (fun v i wr => BRel w2 T m v i wr) (fun _ i _ => (64 * (m : Int) - intOf i).toNat)
 case atStart => exact ⟨0, by omega, rfl, WF2.out, Below.refl _ _⟩
 case round =>
  obtain ⟨j, hj, rfl, hwl, hbr⟩ := hrel
  by_cases hlt : j < m
  ·obtain ⟨gp, rfl, _, hgp, hpcell⟩ := PC.out (by intro e; have := TL.out; rw [e] at this; simp at this; omega)
   have hs1 : 64 * j < cp := by have := CP.out; omega
   have hs2 : 64 * j + 64 ≤ cp := by have := CP.out; omega
   have hlt' : 64 * (j : Int) < 64 * (m : Int) := by omega
   have hsl : Sl wr (.slice (some ⟨gp, 64 * j, none⟩) 64 (cp - 64 * j)) ((T.drop (64 * j)).take 64) := by
    have hl : ((T.drop (64 * j)).take 64).length = 64 := by rw [List.length_take, List.length_drop, TL.out]; omega
    refine ⟨_, cp - 64 * j, by rw [hl], by rw [hl]; omega, fun _ => ⟨gp, 64 * j, rfl, Nat.lt_of_lt_of_le hgp hbr.size, fun i hi => ?_⟩⟩
    rw [hl] at hi
    rw [hbr.cell (p := ⟨gp, 64 * j + i, none⟩) hgp, hpcell (64 * j + i) (by rw [TL.out]; omega)]
    simp [List.getD_eq_getElem?_getD, hi]
   have hst := step_ref (comps IVl T j) ((T.drop (64 * j)).take 64) vk u4 _ wr (Wl.below WK2.out hbr) hwl hsl (comps_length T j) (by rw [List.length_take, List.length_drop, TL.out]; omega)
   have ST := zh hst; have BR := zh hbr; have S1 := zh hs1; have S2 := zh hs2
   clear hst hbr hs1 hs2 hsl hwl hpcell hgp
   go_wp2_with (refine wpList_slice_mid zr _ _ _ _ zr _ Tryz.underlying39 (by kernel_rfl) gp 0 (64 * m) cp (64 * j) (64 * j + 64) zr (by first | rfl | (go_num; done)) (by first | rfl | (go_num; done)) (by omega) S2.out S1.out ?_)
   refine ST.out.mono ?_
   rintro e w' ⟨v', rfl, ho', hb'⟩
   have OW' := zh (OwnV.wl' ho' (by rw [comp_len _ _ (comps_length T j)]; decide)); have BR' := zh (BR.out.trans (hb'.mono BR.out.size))
   clear ho' hb'
   go_wp2_with fail
   go_roundw
   case rel => exact ⟨j + 1, by omega, by first | rfl | (go_num; done) | (simp; omega), OW'.out, BR'.out⟩
   case measure => simp [intOf]; omega
  ·have hjm : j = m := by omega
   have hge : ¬ 64 * (j : Int) < 64 * (m : Int) := by omega
   rw [hjm] at hwl
   obtain ⟨gs, cs, rfl, hgs, hsc⟩ := hwl
   rw [comps_length] at hsc ⊢
   have GS := zh hgs; have SC := zh hsc; have BR := zh hbr
   clear hgs hsc hbr hjm PC WK2 WF2 CP
   go_wp2_with fail
   have hrow0 : (u8s (oRow (comps IVl T m) 0)).toArray = Z32 := by kernel_rfl
   generalize hwa : wr.alloc _ = wa
   have at0 : At wa wr.heap.size (u8s (oRow (comps IVl T m) 0)).toArray 22 := by rw [← hwa, hrow0]; exact at_new wr Z32 _
   have bl0 : Below wr.heap.size wr wa := by rw [← hwa]; exact (Below.refl _ _).alloc (Nat.le_refl _) _
   obtain ⟨L, hL⟩ : ∃ L, L = comps IVl T m := ⟨_, rfl⟩
   rw [← hL] at at0 SC
   have HL := zh hL; have AA := zh at0; have BA := zh bl0
   clear hwa at0 bl0 hrow0 hL
   obtain ⟨wq, rfl⟩ : ∃ wq : World, wq = wr := ⟨_, rfl⟩
   go_loopw [8] (fun i wr => ∃ k : Nat, k ≤ 32 ∧ i = .int .i64 k ∧ At wr wq.heap.size (u8s (oRow L k)).toArray 22 ∧ Below wq.heap.size wq wr) (fun i _ => 32 - (intOf i).toNat)
   case atStart => exact ⟨0, by omega, rfl, AA.out, BA.out⟩
   case round =>
    clear AA BA
    obtain ⟨k, hk, rfl, hat, hbx⟩ := hrel
    by_cases hlt2 : k < 32
    ·obtain ⟨q, hq⟩ : ∃ q : Nat, q = k / 4 := ⟨_, rfl⟩
     obtain ⟨r, hr⟩ : ∃ q : Nat, q = k % 4 := ⟨_, rfl⟩
     have hq1 : (k : Int).tdiv 4 = (q : Int) := by rw [Int.tdiv_eq_ediv_of_nonneg (by omega)]; omega
     have hr1 : (k : Int).tmod 4 = (r : Int) := by rw [Int.tmod_eq_emod_of_nonneg (by omega)]; omega
     have hq8 : q < 8 := by omega
     have hr4 : r < 4 := by omega
     obtain ⟨x, hx⟩ : ∃ x, x = L.getD q 0 := ⟨_, rfl⟩
     have hcell : wr.cell? ⟨gs, q, none⟩ = some (.int .u32 (V x)) := by rw [hbx.cell (p := ⟨gs, q, none⟩) GS.out, hx]; exact SC.out q hq8
     have hdb : dByte L k = wb x (24 - 8 * r) := by rw [dByte, hx, hq, hr]
     have DB := zh hdb; have AT := zh hat; have BX := zh hbx
     have hlt' : (k : Int) < 32 := by omega
     have hv0 := V_lo x
     clear hdb hat hbx hx hq hr
     go_wp2_with (refine Mem.wpList_store_one zr 5 _ _ zr zr wq.heap.size k (.int .u8 ((wb x (24 - 8 * r)).toNat : Int)) zr (by exact congrArg (Value.int .u8) (wb_pow x _)) zr infoB _ _ AT.out (by simp [u8s, oRow_length L k hk]; omega) ?_; intro w' hat' ho' hb'; have AT' := zh hat'; have BX' := zh (hb' _ _ BX.out (Nat.le_refl _)); clear hat' ho' hb')
     go_roundw
     case rel => exact ⟨k + 1, by omega, by go_num, by rw [← oRow_set L k hlt2, DB.out, ← u8s_set]; exact AT'.out, BX'.out⟩
     case measure => simp [intOf]; omega
    ·have hk32 : k = 32 := by omega
     rw [hk32] at hat
     obtain ⟨G, hG⟩ : ∃ G, G = (u8s (oRow L 32)).toArray := ⟨_, rfl⟩
     rw [← hG] at hat
     have hGs : G.size = 32 := by rw [hG]; simp [u8s, oRow_length]
     have hGo : G.all (·.oneCell') = true := by rw [hG]; exact u8s_one _
     have hge2 : ¬ (k : Int) < 32 := by omega
     have BX := zh ((BR.out.trans (hbx.mono BR.out.size)))
     have hA := (A2.out.below BX.out A2.out.lt)
     have HG := zh hG; have AT := zh hat; have GZ := zh hGs; have GO := zh hGo; have A3 := zh hA
     clear hG hat hGs hGo hbx hA hk32 hlt2 hk
     go_wp2_with (first | (refine wpList_load_all zr 22 _ zr wq.heap.size zr _ Tryz.underlying22 zr G _ AT.out (by rw [GZ.out]; exact info32) ?_) | (refine wpList_store_all zr 22 _ _ zr zr w.heap.size G zr zr (by rw [GZ.out]; exact info32) _ _ A3.out (by rw [GZ.out]; simp [Z32, u8s]) GO.out ?_))
     try simp only [Exit.inBlock, Exit.then]
     refine ret_row zr w.heap.size 22 G _ zr (A3.out.row G) Tryz.underlying22 zr (by rw [GZ.out]; exact info32) ?_
     exact ⟨by rw [HG.out, HL.out], (BL2.out.trans (BX.out.mono BL2.out.size)).trans ⟨rfl, rfl, rfl, by simp, fun k hk => setRow_other _ _ k G (by omega)⟩⟩
end Sha
end Go.Proofs.YtajdpbbbocnfiaaGreatDoor
namespace Go.Proofs.YtajdpbbbocnfiaaGreatDoor
namespace Sha
open Go.RowKit Mem
set_option maxRecDepth 100000 in
theorem blk_laid {b x : List (BitVec 8)} {n p k : Nat} (hb : b.length = n * 256) (hx : x.length = 256) (hp : p < n) (hk : k < n) : blkOf (laidB b (p * 256) x) k = if p = k then x else blkOf b k := by
 have hpn : p * 256 + 256 ≤ n * 256 := by omega
 have hkn : k * 256 + 256 ≤ n * 256 := by omega
 by_cases h : p = k
 ·rw [if_pos h, blkOf, laidB, ← h, List.append_assoc, List.drop_left' (by simp; omega), List.take_left' hx]
 ·rw [if_neg h]
  apply List.ext_getElem?
  intro i
  unfold blkOf laidB
  rw [List.getElem?_take, List.getElem?_take]
  by_cases hi : i < 256
  ·rw [if_pos hi, if_pos hi, List.getElem?_drop, List.getElem?_drop]
   by_cases hlt : k * 256 + i < p * 256
   ·rw [List.append_assoc, List.getElem?_append_left (by simp; omega), List.getElem?_take, if_pos hlt]
   ·have hge : p * 256 + 256 ≤ k * 256 + i := by omega
    have e1 : (List.take (p * 256) b ++ x).length = p * 256 + 256 := by simp [hx]; omega
    rw [List.getElem?_append_right (by rw [e1]; exact hge), e1, List.getElem?_drop, hx]
    congr 1
    omega
  ·rw [if_neg hi, if_neg hi]
theorem readTo_flush {n k : Nat} {l : List (Nat × List (BitVec 8))} {b : List (BitVec 8)} (h : WfP n l) (hb : b.length = n * 256) (hk : k < n) : ∀ j, j ≤ l.length → blkOf (flushTo l b j) k = readTo k (blkOf b k) l j
 | 0, _ => rfl
 | j + 1, hj => by
  obtain ⟨h1, h2⟩ := h j (by omega)
  rw [flushTo, readTo, blk_laid (flushTo_length h hb j (by omega)) h2 h1 hk, readTo_flush h hb hk j (by omega)]
def Has (s : St6) (H : List (BitVec 8)) : Prop := ∀ k, k < 8 → stRead s k = List.replicate 256 (H.getD k 0)
structure Solo (R : StAcc) (b : Nat) (E : Foot) (w : World) (s : St6) (wr : World) : Prop where
 f : ∃ F, R F b wr s ∧ ∀ k, F k → w.heap.size ≤ k ∧ ¬ E k
 e : ∀ k, E k → k < wr.heap.size
 b : Below w.heap.size w wr
section
variable {R : StAcc} {b : Nat} {E : Foot} {w wr wx : World} {s s' : St6}
theorem Solo.call {P : Program} {f : FuncId} {vs : Array Value} {v : Value} (h : Solo R b E w s wr) (k : ∀ F, R F b wr s → Calls P f vs wr fun e w' => e = .returned v ∧ StEnd R F b wr s' w') :
 Calls P f vs wr fun e w' => e = .returned v ∧ Solo R b E w s' w' ∧ Kept E wr w' := by
 obtain ⟨F, h1, h2⟩ := h.f
 have hb := h.b.size
 refine (k F h1).mono ?_
 rintro e w' ⟨rfl, hs⟩
 obtain ⟨⟨F', h3, h4⟩, h5⟩ := hs
 exact ⟨rfl, ⟨⟨F', h3, fun y hy => (h4 y hy).elim (h2 y) (fun hw => ⟨by omega, fun he => by have := h.e y he; omega⟩)⟩, fun y hy => Nat.lt_of_lt_of_le (h.e y hy) h5.size, h5.below h.b (fun y hy => (h2 y hy).1) hb⟩, ⟨h5.size, fun y hy => h5.block y (h.e y hy) (fun hF => (h2 y hF).2 hy)⟩⟩
end
end Sha
end Go.Proofs.YtajdpbbbocnfiaaGreatDoor
namespace Go.Proofs.YtajdpbbbocnfiaaGreatDoor
namespace Sha
open Go.RowKit Mem
theorem pst_new {w w4 : World} {bb n : Nat} (hr : At w4 bb (u8s (List.replicate (n * 256) 0)).toArray 5) (_hw : w.heap.size ≤ bb) :
 PSt (fun k => k = bb ∨ k = w4.heap.size) w4.heap.size (w4.alloc (.cells (pRow bb n (.slice none 0 0) (.slice none 0 0) (.slice none 0 0)) 109)) (stNew n) := by
 have hlt := hr.lt
 refine ⟨fun _ => False, bb, _, _, _, .inr rfl, fun k hk => ?_, at_new w4 _ _, ⟨.inl rfl, by omega, hr.alloc _, by simp [stNew], fun k hk => by simp [Value.ownBlock] at hk, fun k hk => by simp [Value.ownBlock] at hk, fun k hk => by simp [Value.ownBlock] at hk, fun k hk => hk.elim,
  ⟨[], trivial, ownsRow_nil0 _ _ _ _⟩, ⟨[], trivial, ownsRow_nil0 _ _ _ _⟩, ownsRow_nil0 _ _ _ _⟩⟩
 rw [World.size_alloc]; rcases hk with rfl | rfl <;> omega
set_option maxRecDepth 100000 in
set_option maxHeartbeats 1000000 in
theorem dvnew_good (n : Nat) (w : World) (h1 : 1 ≤ n) (h2 : n ≤ 1024) : Calls Tryz.prog 41 #[.int .i64 (n : Int)] w fun e w' => ∃ b F, e = .returned (.tuple #[rq b, .int .i64 0]) ∧ PSt F b w' (stNew n) ∧ (∀ k, F k → w.heap.size ≤ k) ∧ Below w.heap.size w w' := by
 obtain ⟨i8, hi8, hz8, hs8, hb8⟩ := info_parts infoU8
 have g1 : ¬ (n : Int) < 1 := by omega
 have g2 : ¬ (1024 : Int) < (n : Int) := by omega
 obtain ⟨T, hT⟩ : ∃ T, T = n * 256 := ⟨_, rfl⟩
 have hTi : (n : Int) * 256 = (T : Int) := by omega
 have hT6 : T ≤ 262144 := by omega
 have I8 := zh hi8; have Z8 := zh hz8; have S8 := zh hs8; have B8' := zh hb8; have TI := zh hTi; have HT := zh hT
 clear hi8 hz8 hs8 hb8 hT hTi
 go_enter Tryz.func41, Tryz.ntmps41
 go_wp2_with (refine wpList_make_full _ zr _ _ 39 zr w.heap.size 5 i8 (.int .u8 0) 1 Tryz.underlying39 I8.out Z8.out S8.out .i64 .i64 ((n : Int) * 256) ((n : Int) * 256) T zr zr TI.out TI.out (by rw [B8'.out]; omega) (by simp [maxLen]; omega) (Nat.le_refl _) ?_; intro w4 ho4 hg4; have R4 : Hid (At w4 w.heap.size (u8s (List.replicate T 0)).toArray 5) := (by have h := own_full ho4; rw [made_zeros] at h; exact h); have B4 : Hid (Below w.heap.size w w4) := (Below.refl _ _).grown hg4 (Nat.le_refl _) (fun _ h => by cases h); clear ho4)
 go_ret2
 have h := pst_new (w := w) (w4 := w4) (bb := w.heap.size) (n := n) (by rw [← HT.out]; exact R4.out) (Nat.le_refl _)
 unfold pRow pBl at h
 rw [← HT.out] at h
 exact ⟨w4.heap.size, rfl, _, h, fun k hk => by have h5 := B4.out.size; rcases hk with rfl | rfl <;> omega, B4.out.alloc B4.out.size _⟩
end Sha
end Go.Proofs.YtajdpbbbocnfiaaGreatDoor
