/- The program's commit: a plan as it is made (the draft), in memory. -/
import Derived.Test.YtahcjnganedbiaaGreatDoorBN39
import Derived.Test.YtahcjnganedbiaaGreatDoorBN37
import Derived.Test.YtahcjnganedbiaaGreatDoorBN22
namespace Go.Proofs.YtahcjnganedbiaaGreatDoor
namespace Sha
open Go.RowKit Mem
set_option maxRecDepth 100000
def drA (key : List (BitVec 8)) (ep : BitVec 32) (p : Nat) : List Value := (.pointer none :: u8s key) ++ [.int .u32 (V ep), .int .i64 (p : Int)]
def drL (key : List (BitVec 8)) (ep : BitVec 32) (p : Nat) (root : RefV) (bm : Nat) (vp : Value) : List Value := drA key ep p ++ refL root ++ [.map (some bm), vp]
def drC (key : List (BitVec 8)) (ep : BitVec 32) (p : Nat) (root : RefV) (bm : Nat) (vp : Value) : Array Value := (drL key ep p root bm vp).toArray
section
variable {key : List (BitVec 8)} {ep : BitVec 32} {p : Nat} {root r : RefV} {bm : Nat} {vp : Value}
theorem drA_length (lk : key.length = 32) : (drA key ep p).length = 35 := by simp [drA, u8s_length, lk]
theorem drL_length (lk : key.length = 32) (hr : root.Wf) : (drL key ep p root bm vp).length = 71 := by simp [drL, drA_length lk, refL_length hr]
theorem drC_size (lk : key.length = 32) (hr : root.Wf) : (drC key ep p root bm vp).size = 71 := by simp [drC, drL_length lk hr]
theorem at_mid {w : World} {b : Nat} {t : TypeId} {A X Z : List Value} (h : At w b (A ++ X ++ Z).toArray t) : w.rangeAt b A.length X := fun j v hv => by
 rw [h.cell]
 have hj : j < X.length := (List.getElem?_eq_some_iff.1 hv).1
 simp only [List.getElem?_toArray]
 rw [List.getElem?_append_left (by rw [List.length_append]; omega), List.getElem?_append_right (by omega), Nat.add_sub_cancel_left]
 exact hv
structure DrCells (w : World) (bd : Nat) (key : List (BitVec 8)) (ep : BitVec 32) (p : Nat) (root : RefV) (bm : Nat) (vp : Value) : Prop where
 book : w.cell? ⟨bd, 0, none⟩ = some (.pointer none)
 key : w.rangeAt bd 1 (u8s key)
 ep : w.cell? ⟨bd, 33, none⟩ = some (.int .u32 (V ep))
 shp : w.rangeAt bd 34 (psC p).toList
 root : w.rangeAt bd 35 (refL root)
 map : w.cell? ⟨bd, 69, none⟩ = some (.map (some bm))
 puts : w.cell? ⟨bd, 70, none⟩ = some vp
theorem dr_cells {w : World} {bd : Nat} {t : TypeId} (h : At w bd (drC key ep p root bm vp) t) (lk : key.length = 32) (hr : root.Wf) : DrCells w bd key ep p root bm vp := by
 have hl : (u8s key).length = 32 := by rw [u8s_length, lk]
 have hrl := refL_length hr
 have e1 : drL key ep p root bm vp = [.pointer none] ++ u8s key ++ ([.int .u32 (V ep), .int .i64 (p : Int)] ++ refL root ++ [.map (some bm), vp]) := by simp [drL, drA, List.append_assoc]
 have e2 : drL key ep p root bm vp = ([.pointer none] ++ u8s key) ++ [.int .u32 (V ep)] ++ ([.int .i64 (p : Int)] ++ refL root ++ [.map (some bm), vp]) := by simp [drL, drA, List.append_assoc]
 have e3 : drL key ep p root bm vp = ([.pointer none] ++ u8s key ++ [.int .u32 (V ep)]) ++ (psC p).toList ++ (refL root ++ [.map (some bm), vp]) := by simp [drL, drA, psC, List.append_assoc]
 have e4 : drL key ep p root bm vp = drA key ep p ++ refL root ++ [.map (some bm), vp] := rfl
 have e5 : drL key ep p root bm vp = (drA key ep p ++ refL root) ++ [.map (some bm)] ++ [vp] := by simp [drL, List.append_assoc]
 have e6 : drL key ep p root bm vp = (drA key ep p ++ refL root ++ [.map (some bm)]) ++ [vp] ++ [] := by simp [drL, List.append_assoc]
 have e0 : drL key ep p root bm vp = [] ++ [.pointer none] ++ (u8s key ++ [.int .u32 (V ep), .int .i64 (p : Int)] ++ refL root ++ [.map (some bm), vp]) := by simp [drL, drA, List.append_assoc]
 have one : ∀ {o : Nat} {x : Value}, w.rangeAt bd o [x] → w.cell? ⟨bd, o, none⟩ = some x := fun {o x} hh => by have := hh 0 x rfl; simpa using this
 have g := fun (A X Z : List Value) (n : Nat) (e : drL key ep p root bm vp = A ++ X ++ Z) (hn : A.length = n) => by
  have h2 := h
  unfold drC at h2
  rw [e] at h2
  have := at_mid h2
  rw [hn] at this
  exact this
 exact ⟨one (g _ _ _ 0 e0 rfl), g _ _ _ 1 e1 rfl, one (g _ _ _ 33 e2 (by simp [hl])), g _ _ _ 34 e3 (by simp [hl]), g _ _ _ 35 e4 (drA_length lk), one (g _ _ _ 69 e5 (by rw [List.length_append, drA_length lk, hrl])), one (g _ _ _ 70 e6 (by rw [List.length_append, List.length_append, drA_length lk, hrl]; rfl))⟩
theorem dr_root (lk : key.length = 32) (hr : root.Wf) (hr' : r.Wf) : Mem.splice (drC key ep p root bm vp) 35 (refL r) = drC key ep p r bm vp := by
 have h1 := drA_length (ep := ep) (p := p) lk
 have h2 := refL_length hr; have h3 := refL_length hr'
 have t1 : (drL key ep p root bm vp).take 35 = drA key ep p := by
  unfold drL
  rw [List.append_assoc, List.take_append_of_le_length (by omega), ← h1, List.take_length]
 have t2 : (drL key ep p root bm vp).drop (35 + 34) = [.map (some bm), vp] := by
  unfold drL
  rw [List.drop_append, List.length_append, h1, h2, List.drop_of_length_le (by rw [List.length_append, h1, h2]; decide)]
  rfl
 unfold Mem.splice drC
 rw [h3]
 simp only [t1, t2]
 rfl
theorem dr_puts (lk : key.length = 32) (hr : root.Wf) (v : Value) : (drC key ep p root bm vp).setIfInBounds 70 v = drC key ep p root bm v := by
 have h1 := drA_length (ep := ep) (p := p) lk
 have h2 := refL_length hr
 unfold drC drL
 rw [List.setIfInBounds_toArray, List.set_append_right _ _ (by rw [List.length_append, h1, h2]; decide), List.length_append, h1, h2]
 rfl
end
structure DrI (w1 w : World) (bd bm : Nat) (f : Int → Option Value) (key : List (BitVec 8)) (ep : BitVec 32) (p : Nat) (root : RefV) (Q : Nat → Prop) (M : Nat → List RefV) (vp : Value) (D : Foot) (ws : List (Nat × Value)) (L : List (Nat × List (BitVec 8))) : Prop where
 b : Below w1.heap.size w1 w
 gd : w1.heap.size ≤ bd
 row : At w bd (drC key ep p root bm vp) 118
 mp : RMap w w1.heap.size bm f Q M 1000
 e : Each2 (fun p q => p.1 = q.1 ∧ SlB D w p.2 q.2) ws L
 po : w.ownsRow w1.heap.size 87 2 vp L.length (putC ws)
 d : ∀ k, D k → w1.heap.size ≤ k ∧ k < w.heap.size ∧ k ≠ bd ∧ k ≠ bm ∧ vp.ownBlock ≠ some k ∧ ∀ q v, Q q → f (q : Int) = some v → v.ownBlock ≠ some k
 kl : key.length = 32
 rw : root.Wf
 mw : ∀ q, Q q → ∀ r ∈ M q, r.Wf
section
variable {w1 w w2 w3 w5 w6 : World} {bd bm : Nat} {f : Int → Option Value} {key : List (BitVec 8)} {ep : BitVec 32} {p : Nat} {root r : RefV} {Q : Nat → Prop} {M : Nat → List RefV} {vp vp' v2 : Value} {D G : Foot} {ws : List (Nat × Value)} {L : List (Nat × List (BitVec 8))}
theorem DrI.cells (h : DrI w1 w bd bm f key ep p root Q M vp D ws L) : DrCells w bd key ep p root bm vp := dr_cells h.row h.kl h.rw
theorem DrI.below (h : DrI w1 w bd bm f key ep p root Q M vp D ws L) (hb : Below w.heap.size w w2) : DrI w1 w2 bd bm f key ep p root Q M vp D ws L :=
 ⟨h.b.trans (hb.mono h.b.size), h.gd, h.row.below hb h.row.lt, h.mp.below hb, h.e.mono fun _ _ x => ⟨x.1, x.2.keep hb.size fun k _ hl => hb.block k hl⟩, ownsRow_below h.po hb,
  fun k hk => let ⟨a, b, c⟩ := h.d k hk; ⟨a, Nat.lt_of_lt_of_le b hb.size, c⟩, h.kl, h.rw, h.mw⟩
theorem DrI.nbm (h : DrI w1 w bd bm f key ep p root Q M vp D ws L) : bm ≠ bd := let ⟨_, hm, _⟩ := h.mp.m; hm.ne_at h.row
theorem DrI.nown (h : DrI w1 w bd bm f key ep p root Q M vp D ws L) {q : Nat} {v : Value} (hq : Q q) (hv : f (q : Int) = some v) : v.ownBlock ≠ some bd ∧ v.ownBlock ≠ some bm ∧ ∀ k, v.ownBlock = some k → vp.ownBlock ≠ some k := by
 obtain ⟨v', e, ho⟩ := h.mp.own q hq
 rw [hv] at e
 injection e with e
 subst e
 obtain ⟨_, hm, _⟩ := h.mp.m
 exact ⟨own_ne_at ho h.row (by decide), hm.ne_own ho, ownsRow_ne ho h.po (by decide)⟩
theorem DrI.setRoot (h : DrI w1 w bd bm f key ep p root Q M vp D ws L) (hr : r.Wf) : DrI w1 (w.setRow bd (Mem.splice (drC key ep p root bm vp) 35 (refL r))) bd bm f key ep p r Q M vp D ws L := by
 rw [dr_root h.kl h.rw hr]
 have ko : ∀ k, k ≠ bd → (w.setRow bd (drC key ep p r bm vp)).heap[k]? = w.heap[k]? := fun k hk => setRow_other w bd k _ hk
 have hsz : (w.setRow bd (drC key ep p r bm vp)).heap.size = w.heap.size := by simp
 refine ⟨below_row h.b h.gd _, h.gd, h.row.row _, h.mp.keep (ko bm h.nbm) fun q v k hq hv hk => ko k fun e => (h.nown hq hv).1 (by rw [← e]; exact hk), h.e.mono fun a c x => ⟨x.1, x.2.keep (by omega) fun k hd _ => ko k (h.d k hd).2.2.1⟩,
  ownsRow_keep h.po fun k hk => ko k fun e => own_ne_at h.po h.row (by decide) (by rw [← e]; exact hk), fun k hk => ?_, h.kl, hr, h.mw⟩
 rw [hsz]; exact h.d k hk
theorem DrI.setSlot (h : DrI w1 w bd bm f key ep p root Q M vp D ws L) (hr : r.Wf) {q t : Nat} {v : Value} (hq : Q q) (hv : f (q : Int) = some v) (ht : t < (M q).length) :
 ∃ g cap cur, v = .slice (some ⟨g, 0, none⟩) (M q).length cap ∧ At w g cur 69 ∧ t * 34 + 34 ≤ cur.size ∧ w.rangeAt g (0 + t * 34) (refL ((M q).getD t zref)) ∧ DrI w1 (w.setRow g (Mem.splice cur (t * 34) (refL r))) bd bm f key ep p root Q (fun x => if x = q then (M q).set t r else M x) vp D ws L := by
 obtain ⟨v', e, ho⟩ := h.mp.own q hq
 rw [hv] at e
 injection e with e
 subst e
 have hn := h.nown hq hv
 obtain ⟨g, cap, cur, ev, hg, hgl, hcur, hfit, hown⟩ := own_store ho (h.mw q hq) hr ht
 have hsl := own_slrf ho (h.mw q hq)
 subst ev
 have hg1 : (Value.slice (some ⟨g, 0, none⟩) (M q).length cap).ownBlock = some g := rfl
 have hgd : g ≠ bd := fun e => hn.1 (by rw [hg1, e])
 have hgm : g ≠ bm := fun e => hn.2.1 (by rw [hg1, e])
 have hgp : vp.ownBlock ≠ some g := hn.2.2 g hg1
 have ko : ∀ k, k ≠ g → (w.setRow g (Mem.splice cur (t * 34) (refL r))).heap[k]? = w.heap[k]? := fun k hk => setRow_other w g k _ hk
 have hsz : (w.setRow g (Mem.splice cur (t * 34) (refL r))).heap.size = w.heap.size := by simp
 refine ⟨g, cap, cur, rfl, hcur, hfit, slrf_cell hsl rfl ht, below_row h.b hg _, h.gd, h.row.row_other _ (fun e => hgd e.symm), ⟨?_, h.mp.g, fun x hx => ?_, h.mp.dis⟩, h.e.mono fun a c x => ⟨x.1, x.2.keep (by omega) fun k hd _ => ko k fun e => (h.d k hd).2.2.2.2.2 q _ hq hv (by rw [e]; exact hg1)⟩,
  ownsRow_keep h.po fun k hk => ko k fun e => hgp (by rw [← e]; exact hk), fun k hk => by rw [hsz]; exact h.d k hk, h.kl, h.rw, fun x hx y hy => ?_⟩
 ·obtain ⟨n, hm, hn1⟩ := h.mp.m
  exact ⟨n, hm.same (ko bm fun e => hgm e.symm), hn1⟩
 ·by_cases ex : x = q
  ·subst ex
   rw [if_pos rfl]
   exact ⟨_, hv, hown⟩
  ·rw [if_neg ex]
   obtain ⟨u, eu, hu⟩ := h.mp.own x hx
   refine ⟨u, eu, ownsRow_keep hu fun k hk => ko k fun e => ?_⟩
   subst e
   exact h.mp.dis q x hq hx (fun e => ex e.symm) _ u k hv eu hg1 hk
 ·split at hy
  ·rcases List.mem_or_eq_of_mem_set hy with a | a
   ·exact h.mw q hq y a
   ·rw [a]; exact hr
  ·exact h.mw x hx y hy
theorem DrI.put {q : Nat} {x : List (BitVec 8)} (h : DrI w1 w bd bm f key ep p root Q M vp D ws L) (hs : SlB G w v2 x) (hG : ∀ k, G k → w1.heap.size ≤ k ∧ k < w.heap.size ∧ k ≠ bd ∧ k ≠ bm ∧ vp.ownBlock ≠ some k ∧ ∀ q v, Q q → f (q : Int) = some v → v.ownBlock ≠ some k)
 (hb3 : Below w.heap.size w w3) (ha : App w3 w5 vp vp') (hb5 : Below w1.heap.size w3 w5) (ho : w5.ownsRow w1.heap.size 87 2 vp' (L.length + 1) (putC ws ++ [.int .i64 (q : Int), v2]))
 (hA : At w6 bd (drC key ep p root bm vp') 118) (hk : ∀ k, k ≠ bd → w6.heap[k]? = w5.heap[k]?) (hB : ∀ B a, Below B a w5 → B ≤ bd → Below B a w6) :
 DrI w1 w6 bd bm f key ep p root Q M vp' (fun k => D k ∨ G k) (ws ++ [(q, v2)]) (L ++ [(q, x)]) := by
 have z1 := h.b.size; have z3 := hb3.size; have z5 := ha.size
 have z6 : w5.heap.size ≤ w6.heap.size := (hB 0 w5 (Below.refl _ _) (Nat.zero_le _)).size
 have hbd := h.row.lt; have hbm := h.mp.lt
 have npd : vp.ownBlock ≠ some bd := own_ne_at h.po h.row (by decide)
 have npm : vp.ownBlock ≠ some bm := by obtain ⟨_, hm, _⟩ := h.mp.m; exact hm.ne_own h.po
 have keep : ∀ k, k < w.heap.size → k ≠ bd → vp.ownBlock ≠ some k → w6.heap[k]? = w.heap[k]? := fun k hl h1 h2 => by
  rw [hk k h1, ha.k k (by omega) h2, hb3.block k hl]
 have hd5 : At w5 bd (drC key ep p root bm vp) 118 := at_appd (h.row.below hb3 hbd) ha npd
 have npd5 : vp'.ownBlock ≠ some bd := own_ne_at ho hd5 (by decide)
 have hnew : ∀ k, k < w.heap.size → vp.ownBlock ≠ some k → vp'.ownBlock ≠ some k := fun k hl hne => by
  rcases ha.b with e | ⟨g, e, hge⟩
  ·rw [e]; exact hne
  ·rw [e]; intro c; injection c with c; omega
 refine ⟨hB _ _ ((h.b.trans (hb3.mono z1)).trans hb5) h.gd, h.gd, hA, h.mp.keep (keep bm hbm h.nbm npm) fun q v k hq hv hkk => ?_, ?_, ?_, fun k hk2 => ?_, h.kl, h.rw, h.mw⟩
 ·have hn := h.nown hq hv
  exact keep k (h.mp.ltq hq hv hkk).2 (fun e => hn.1 (by rw [← e]; exact hkk)) (hn.2.2 k hkk)
 ·refine Each2.snoc ⟨rfl, ?_⟩ (h.e.mono fun a c hx => ⟨hx.1, ?_⟩)
  ·exact ((hs.keep (by omega) fun k hg hl => keep k hl (hG k hg).2.2.1 (hG k hg).2.2.2.2.1).mono fun k hg _ => .inr hg)
  ·exact ((hx.2.keep (by omega) fun k hd hl => keep k hl (h.d k hd).2.2.1 (h.d k hd).2.2.2.2.1).mono fun k hd _ => .inl hd)
 ·rw [putC_snoc, List.length_append]
  exact ownsRow_keep ho fun g hg => hk g (fun e => npd5 (by rw [← e]; exact hg))
 ·have hh : w1.heap.size ≤ k ∧ k < w.heap.size ∧ k ≠ bd ∧ k ≠ bm ∧ vp.ownBlock ≠ some k ∧ ∀ q v, Q q → f (q : Int) = some v → v.ownBlock ≠ some k := hk2.elim (h.d k) (hG k)
  exact ⟨hh.1, by omega, hh.2.2.1, hh.2.2.2.1, hnew k hh.2.1 hh.2.2.2.2.1, hh.2.2.2.2.2⟩
end
end Sha
end Go.Proofs.YtahcjnganedbiaaGreatDoor
