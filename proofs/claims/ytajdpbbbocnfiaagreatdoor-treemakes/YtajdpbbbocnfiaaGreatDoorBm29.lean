/- A block's words behind the rounds: the walks of the function literal and of the rounds. -/
import Derived.Test.YtajdpbbbocnfiaaGreatDoorBm21
namespace Go.Proofs.YtajdpbbbocnfiaaGreatDoor
namespace Mem
open Go.RowKit
theorem wpList_index_rows {P : Program} {ops : Array Oper} {rest : List Oper} {op : Oper} {a : Act} {w : World} {Q : Exit → Act → World → Prop} (hgd : op.guard = none) (ty : TypeId) (x i : Operand) (ho : op.op = .index ty x i)
 (n : Nat) (e : TypeId) (hu : P.underlying ty = some (.array n e)) (de : TypeDesc) (he : P.underlying e = some de) (hde : de.isRow = true) (z : Nat) (hs : (P.info? e).map (·.size) = some z)
 (C : Array Value) (k : Nat) (hx : a.eval x = .agg C) (hi : a.eval i = .int .i64 (k : Int)) (hk : k < n) (R : Array Value) (hR : C.extract (k * z) (k * z + z) = R)
 (h : wpList P ops Q rest (a.put op.dst (.agg R)) w) : wpList P ops Q (op :: rest) a w := by
 refine wpList_plain hgd fun K hK => ?_
 have hagg : (isAgg e).run P w = .ok true w := by
  unfold isAgg
  rw [Sem.run_bind, run_underlying he w]
  cases de <;> simp_all
 cases hq : P.info? e with
 | none => simp [hq] at hs
 | some q =>
  have hs1 : q.size = z := by simpa [hq] using hs
  have hrun : (Instr.index ty (.agg C) (.int .i64 (k : Int))).run P w = .ok (.agg R) w := by
   simp [Instr.index, asIntOf, Sem.run_bind, run_underlying hu, sizeOf, typeInfo, hq, hs1, hk, part, hagg, hR]
  unfold Oper.wp execOp
  simp only [ho, hx, hi, Sem.run_bind, hrun, Result.andThen_ok, Sem.run_pure]
  exact hK _ _ h
end Mem
namespace Sha
open Go.RowKit Mem
theorem ints_get (l : List Nat) (i : Nat) (h : i < l.length) : (ints l)[i]? = some (.int .i64 ((l.getD i 0 : Nat) : Int)) := by simp [ints, h]
theorem ints_one (l : List Nat) : (ints l).toArray.all (·.oneCell') = true := by simp [ints, Value.oneCell']
theorem ints_length (l : List Nat) : (ints l).length = l.length := by simp [ints]
def qset (W : List (BitVec 32)) (p : List Nat) (L : List (BitVec 32)) : Nat → List (BitVec 32)
 | 0 => W
 | j + 1 => (qset W p L j).set (p.getD j 0) (L.getD j 0)
theorem qset_length (W : List (BitVec 32)) (p : List Nat) (L : List (BitVec 32)) : ∀ j, (qset W p L j).length = W.length
 | 0 => rfl
 | j + 1 => by rw [qset, List.length_set, qset_length W p L j]
def qin (W : List (BitVec 32)) (p : List Nat) : Q4 := ⟨W.getD (p.getD 0 0) 0, W.getD (p.getD 1 0) 0, W.getD (p.getD 2 0) 0, W.getD (p.getD 3 0) 0⟩
theorem qin_get (W : List (BitVec 32)) (p : List Nat) (j : Nat) (h : j < 4) : (qin W p).list.getD j 0 = W.getD (p.getD j 0) 0 := by
 have : j = 0 ∨ j = 1 ∨ j = 2 ∨ j = 3 := by omega
 rcases this with rfl | rfl | rfl | rfl <;> rfl
theorem qset_all (W : List (BitVec 32)) (p : List Nat) : qset W p (qr (qin W p)).list 4 = qpl W p := rfl
theorem qOf_get (q : Q4) (j : Nat) (h : j < 4) : (qOf q)[j]? = some (.int .u32 (V (q.list.getD j 0))) := by
 rw [qOf, List.getElem?_toArray]; exact u32s_get q.list j h
structure T1Inv (G : Array Value) (L : List (BitVec 32)) (w wr : World) : Prop where
 g : At wr w.heap.size G 202
 k : At wr (w.heap.size + 1) (u32s L).toArray 193
 b : Below w.heap.size w wr
structure T2Inv (G : Array Value) (W : List (BitVec 32)) (bw : Nat) (w wr : World) : Prop where
 g : At wr w.heap.size G 202
 a : At wr bw (u32s W).toArray 197
 o : But bw w wr
 k : ∀ B x, Below B x w → B ≤ bw → B ≤ w.heap.size → Below B x wr
set_option maxRecDepth 100000 in
set_option maxHeartbeats 2000000 in
theorem clit_any (W : List (BitVec 32)) (p : List Nat) (bw : Nat) (w : World) (lW : W.length = 16) (lp : p.length = 4) (hp : ∀ j, j < 4 → p.getD j 0 < 16) (ha : At w bw (u32s W).toArray 197) :
 Calls Tryz.prog 134 #[.agg (ints p).toArray, .pointer (some ⟨bw, 0, none⟩)] w fun e w' => e = .returned (.tuple #[]) ∧ At w' bw (u32s (qpl W p)).toArray 197 ∧ But bw w w' ∧ (∀ B x, Below B x w → B ≤ bw → B ≤ w.heap.size → Below B x w') := by
 obtain ⟨X, hX⟩ : ∃ X, X = Z4 := ⟨_, rfl⟩
 have hx := zero4
 rw [← hX] at hx
 obtain ⟨G, hG⟩ : ∃ G, G = (ints p).toArray := ⟨_, rfl⟩
 have gj : ∀ j, j < 4 → G[j]? = some (.int .i64 ((p.getD j 0 : Nat) : Int)) := fun j hj => by rw [hG, List.getElem?_toArray]; exact ints_get p j (by omega)
 obtain ⟨F, hF⟩ : ∃ F, F = (qin W p).list := ⟨_, rfl⟩
 have lF : F.length = 4 := by rw [hF]; rfl
 have fj : ∀ j, j < 4 → F.getD j 0 = W.getD (p.getD j 0) 0 := by rw [hF]; exact qin_get W p
 rw [← hG]
 have hI : T1Inv G (rowY F 4 0) w ((w.alloc (.cells G 202)).alloc (.cells X 193)) := by
  refine ⟨(at_new w G _).alloc _, ?_, ((Below.refl _ _).alloc (Nat.le_refl _) _).alloc (by simp) _⟩
  have h := at_new (w.alloc (.cells G 202)) X 193
  have e : (u32s (rowY F 4 0)).toArray = X := by rw [hX]; simp [rowY, Z4, u32s]
  rw [e]
  simpa using h
 have hbw : bw < w.heap.size := ha.lt
 have HI := zh hI; have GJ := zh gj; have LF := zh lF; have FJ := zh fj; have HF := zh hF; have LW := zh lW; have HP := zh hp; have HA := zh ha; have BW := zh hbw
 have HGS : Hid (G.size = 4) := by show G.size = 4; rw [hG]; simp [ints, lp]
 clear hI gj lF fj hF lW hp ha hG hX lp hbw
 go_enter Tryz.func134, Tryz.ntmps134
 go_wp2_with (refine wpList_load_all zr 202 _ zr w.heap.size zr _ Tryz.underlying202 zr G _ HI.out.g (by rw [HGS.out]; kernel_rfl) ?_)
 clear hx
 generalize (w.alloc (.cells G 202)).alloc (.cells X 193) = w4 at *
 go_loopw [4, 5, 9] (fun _ _ i wr => ∃ j : Nat, j ≤ 4 ∧ i = .int .i64 j ∧ T1Inv G (rowY F 4 j) w wr) (fun _ _ i _ => 4 - (intOf i).toNat)
 case atStart => exact ⟨0, by omega, rfl, HI.out⟩
 case round =>
  clear HI
  obtain ⟨j, hj, rfl, hI⟩ := hrel
  by_cases hlt : j < 4
  ·obtain ⟨q, hq⟩ : ∃ q, q = p.getD j 0 := ⟨_, rfl⟩
   have gq := GJ.out j hlt
   have q16 := HP.out j hlt
   have fx := FJ.out j hlt
   rw [← hq] at gq q16 fx
   obtain ⟨x, hxx⟩ : ∃ x, x = W.getD q 0 := ⟨_, rfl⟩
   rw [← hxx] at fx
   have cq : wr.cell? ⟨bw, q, none⟩ = some (.int .u32 (V x)) := by
    rw [(HA.out.below hI.b HA.out.lt).cell, List.getElem?_toArray, u32s_get W q (by rw [LW.out]; exact q16), hxx]
   have hset : (u32s (rowY F 4 j)).toArray.setIfInBounds j (.int .u32 (V x)) = (u32s (rowY F 4 (j + 1))).toArray := by
    rw [← rowY_set F 4 j LF.out (by omega), fx]; exact u32s_set _ _ _
   have hEs : j < (u32s (rowY F 4 j)).toArray.size := by simp [u32s, rowY_length F 4 j LF.out (by omega)]; omega
   have hk := hI.k
   obtain ⟨E, hE⟩ : ∃ E, E = (u32s (rowY F 4 j)).toArray := ⟨_, rfl⟩
   rw [← hE] at hk hset hEs
   have KK := zh hk; have ST := zh hset; have ES := zh hEs; have GG := zh hI.g; have BB := zh hI.b; have GQ := zh gq
   have hlt' : (j : Int) < 4 := by omega
   have q16' : (q : Int) < 16 := by omega
   clear hk hset hEs hI hE hq hxx fx gq
   go_wp2_with (first
    | (refine wpList_index_row zr 202 _ _ zr 4 3 Tryz.underlying202 _ Tryz.underlying3 zr (by kernel_rfl) G j zr zr hlt _ GQ.out ?_)
    | (refine Mem.wpList_store_one zr 23 _ _ zr zr (w.heap.size + 1) j (.int .u32 (V x)) zr zr zr infoU32 _ _ KK.out ES.out ?_; intro w' hat' ho' hb'; have KK' := zh hat'; have GG' := zh (at_keep GG.out ho' (by omega)); have BB' := zh (hb' _ _ BB.out (by omega)); clear hat' ho' hb'))
   go_roundw
   case rel => exact ⟨j + 1, by omega, by go_num, GG'.out, by rw [← ST.out]; exact KK'.out, BB'.out⟩
   case measure => simp [intOf]; omega
  ·have hj4 : j = 4 := by omega
   have hge : ¬ (j : Int) < 4 := by omega
   rw [hj4, rowY_all F 4 LF.out] at hI
   have hk := hI.k
   rw [show (u32s F).toArray = qOf (qin W p) by rw [HF.out]; rfl] at hk
   obtain ⟨K, hK⟩ : ∃ K, K = qOf (qin W p) := ⟨_, rfl⟩
   obtain ⟨R, hR⟩ : ∃ R, R = qOf (qr (qin W p)) := ⟨_, rfl⟩
   obtain ⟨L, hLL⟩ : ∃ L, L = (qr (qin W p)).list := ⟨_, rfl⟩
   have hq := fun wx => quarter_any (qin W p) wx
   rw [← hK, ← hR] at hq
   rw [← hK] at hk
   have hKs : K.size = 4 := by rw [hK]; rfl
   have rj : ∀ j, j < 4 → R[j]? = some (.int .u32 (V (L.getD j 0))) := by rw [hR, hLL]; exact qOf_get _
   have hend : qset W p L 4 = qpl W p := by rw [hLL]; exact qset_all W p
   have KK := zh hk; have QU := zh hq; have KS := zh hKs; have RJ := zh rj; have EN := zh hend; have GG := zh hI.g; have BB := zh hI.b
   clear hI hj4 hlt hj hk hq hKs rj hend hK hR hLL HF LF FJ
   go_wp2_with (refine wpList_load_all zr 193 _ zr (w.heap.size + 1) zr _ Tryz.underlying193 zr K _ KK.out (by rw [KS.out]; exact infoQ) ?_)
   refine (QU.out _).mono ?_
   rintro e w' ⟨rfl, hb⟩
   have hI2 : T2Inv G (qset W p L 0) bw w w' := by
    have hbb := BB.out.trans (hb.mono BB.out.size)
    exact ⟨GG.out.below hb GG.out.lt, HA.out.below hbb HA.out.lt, (But.refl _ _).below hbb, fun B x h _ h2 => h.trans (hbb.mono h2)⟩
   have II := zh hI2
   clear hb hI2 QU KK GG BB KS
   go_wp2_with fail
   go_loopw [6, 7, 21] (fun _ _ i wr => ∃ j : Nat, j ≤ 4 ∧ i = .int .i64 j ∧ T2Inv G (qset W p L j) bw w wr) (fun _ _ i _ => 4 - (intOf i).toNat)
   case atStart => exact ⟨0, by omega, rfl, II.out⟩
   case round =>
    clear II
    obtain ⟨j, hj, rfl, hI⟩ := hrel
    by_cases hlt : j < 4
    ·obtain ⟨q, hq⟩ : ∃ q, q = p.getD j 0 := ⟨_, rfl⟩
     have gq := GJ.out j hlt
     have q16 := HP.out j hlt
     have rx := RJ.out j hlt
     rw [← hq] at gq q16
     obtain ⟨x, hxx⟩ : ∃ x, x = L.getD j 0 := ⟨_, rfl⟩
     rw [← hxx] at rx
     have cg : wr.cell? ⟨w.heap.size, j, none⟩ = some (.int .i64 (q : Int)) := by rw [hI.g.cell, gq]
     have hset : (u32s (qset W p L j)).toArray.setIfInBounds q (.int .u32 (V x)) = (u32s (qset W p L (j + 1))).toArray := by
      rw [qset, ← hq, ← hxx]; exact u32s_set _ _ _
     have hEs : q < (u32s (qset W p L j)).toArray.size := by have := LW.out; simp [u32s, qset_length]; omega
     have hk := hI.a
     obtain ⟨E, hE⟩ : ∃ E, E = (u32s (qset W p L j)).toArray := ⟨_, rfl⟩
     rw [← hE] at hk hset hEs
     have KK := zh hk; have ST := zh hset; have ES := zh hEs; have GG := zh hI.g; have OO := zh hI.o; have BB := zh hI.k; have RX := zh rx
     have hlt' : (j : Int) < 4 := by omega
     have q16' : (q : Int) < 16 := by omega
     clear hk hset hEs hI hE hq hxx rx gq
     go_wp2_with (first
      | (refine wpList_index_row zr 193 _ _ zr 4 23 Tryz.underlying193 _ Tryz.underlying23 zr infoU32 R j zr zr hlt _ RX.out ?_)
      | (refine Mem.wpList_store_one zr 23 _ _ zr zr bw q (.int .u32 (V x)) zr zr zr infoU32 _ _ KK.out ES.out ?_; intro w' hat' ho' hb'; have KK' := zh hat'; have GG' := zh (at_keep GG.out ho' (by have := BW.out; omega)); have OO' := zh (OO.out.row (hb' bw _ (Below.refl _ _) (Nat.le_refl _)).size ho'); have BB' := zh (fun B y (h : Below B y w) (hB : B ≤ bw) (h2 : B ≤ w.heap.size) => hb' B y (BB.out B y h hB h2) hB); clear hat' ho' hb'))
     go_roundw
     case rel => exact ⟨j + 1, by omega, by go_num, GG'.out, by rw [← ST.out]; exact KK'.out, OO'.out, BB'.out⟩
     case measure => simp [intOf]; omega
    ·have hj4 : j = 4 := by omega
     have hge : ¬ (j : Int) < 4 := by omega
     rw [hj4, EN.out] at hI
     have II := zh hI
     clear hI hj4 hlt hj
     go_wp2_with fail
     go_end0
     exact ⟨rfl, II.out.a, II.out.o, II.out.k⟩
end Sha
end Go.Proofs.YtajdpbbbocnfiaaGreatDoor
