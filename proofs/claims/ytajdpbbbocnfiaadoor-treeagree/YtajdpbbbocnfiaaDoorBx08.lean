/- How an append changes an own slice. Over any program. Shapes: the pages under an item (mathematics). Slices of ints. The document's shape: an account of its value; has, Kids: walks (written by shpref.py). A conversion in a plain region. In a plan: a row's load where it comes up alone; a store of several cells into a row. -/
import Derived.Test.YtajdpbbbocnfiaaDoorBx03
import Derived.Test.YtajdpbbbocnfiaaDoorBx05
import Derived.Test.YtajdpbbbocnfiaaDoorBx06
import Derived.Test.YtajdpbbbocnfiaaDoorBx00
import Derived.Deep.DeepCutAuto
namespace Go.Proofs.YtajdpbbbocnfiaaDoor
namespace Sha
open Go.RowKit Mem
theorem own_ne_at {w : World} {B b z n : Nat} {e t : TypeId} {v : Value} {xs : List Value} {C : Array Value} (h : w.ownsRow B e z v n xs) (hC : At w b C t) (ht : t ≠ e) : v.ownBlock ≠ some b := by
  rcases h.2 with ⟨rfl, _⟩ | ⟨g, cap, cur, rfl, hg, hh, hr⟩
  · simp [Value.ownBlock]
  · intro e
    have : g = b := by simpa [Value.ownBlock] using e
    subst this
    unfold At at hC
    rw [hh] at hC
    injection hC with hC
    injection hC with _ h2
    exact ht h2.symm
/-- How an append changes an own slice. -/
structure App (w w1 : World) (v v' : Value) : Prop where
  size : w.heap.size ≤ w1.heap.size
  k : ∀ k, k < w.heap.size → v.ownBlock ≠ some k → w1.heap[k]? = w.heap[k]?
  b : v'.ownBlock = v.ownBlock ∨ ∃ g, v'.ownBlock = some g ∧ w.heap.size ≤ g
theorem own_none {e : TypeId} {z : Nat} (w : World) (B : Nat) (hB : B ≤ w.heap.size) : (w.alloc (.cells #[] e)).ownsRow B e z (.slice (some ⟨w.heap.size, 0, none⟩) 0 0) 0 [] := World.ownsRow_made w #[] 0 hB (Nat.zero_le _) (by simp)
theorem App.after {w w0 w1 : World} {v v' : Value} (h : App w0 w1 v v') (hb : Below w.heap.size w w0) : App w w1 v v' :=
  ⟨Nat.le_trans hb.size h.size, fun k hk hn => (h.k k (Nat.lt_of_lt_of_le hk hb.size) hn).trans (hb.block k hk), h.b.imp id fun ⟨g, e, hg⟩ => ⟨g, e, Nat.le_trans hb.size hg⟩⟩
theorem App.chg {F : Foot} {w w1 : World} {v v' : Value} (h : App w w1 v v') (hb : Below 0 w w1) (hF : ∀ k, v.ownBlock = some k → F k) : Chg F w w1 :=
  ⟨hb.os, hb.tape, hb.output, h.size, fun k hk hn => h.k k hk fun e => hn (hF k e)⟩
theorem at_appd {w w1 : World} {b : Nat} {C : Array Value} {t : TypeId} {v v' : Value} (h : At w b C t) (ha : App w w1 v v') (hne : v.ownBlock ≠ some b) : At w1 b C t := Sha.At.app h ha.k hne
section
variable {P : Program} {w : World} {B : Nat} {e : TypeId} {v : Value} {xs : List Value}
theorem run_append_app {t ty : TypeId} {zv vx : Value} {n m z : Nat} {ys : List Value} {bytes : Nat} (he : elemR P t e zv z bytes) (hzv : zv.cells.size = z) (hz0 : 0 < z) (hown : w.ownsRow B e z v n xs) (hrd : RdR w z vx m ys) (h1 : ∀ u ∈ ys, u.oneCell' = true) (hlen : (n + m) * bytes ≤ 140737488355328) (hl2 : n + m < 140737488355328) (hB : B ≤ w.heap.size) :
    ∃ v' w', (Builtin.append_ #[t, t] ty #[v, vx]).run P w = .ok v' w' ∧ w'.ownsRow B e z v' (n + m) (xs ++ ys) ∧ App w w' v v' ∧ Below B w w' := by
  obtain ⟨i0, hi, hzz, hs, hb⟩ := info_parts he.2
  obtain ⟨hyl, a0, cap, rfl, hr⟩ := hrd
  have hml : 140737488355328 ≤ maxLen := by simp [maxLen]
  have hlt : ∀ g, v.ownBlock = some g → B ≤ g := fun g hg => (World.ownsRow.lt hown g hg).1
  have fin : ∀ {v' : Value} {w' : World}, w.grownBy w' v.ownBlock → (v'.ownBlock = v.ownBlock ∨ v'.ownBlock = some w.heap.size) → App w w' v v' ∧ Below B w w' := fun h3 h5 =>
    ⟨⟨h3.size, fun k hk hne => h3.block k hk (fun e => hne e.symm), h5.imp id fun h => ⟨_, h, Nat.le_refl _⟩⟩, (Below.refl _ _).grown h3 hB hlt⟩
  by_cases hne : m = 0
  · subst hne
    have hys : ys = [] := List.eq_nil_of_length_eq_zero (by simpa using hyl)
    subst hys
    cases a0 with
    | none =>
      refine ⟨v, w, ?_, by simpa using hown, fin (World.grownBy.refl w _) (.inl rfl)⟩
      rcases hown.2 with ⟨rfl, rfl⟩ | ⟨g, cap', cur, rfl, _, _, hn, _⟩
      · simp [Builtin.append_, run_underlying he.1, sizeOf, typeInfo, hi, Builtin.lenOf, Builtin.firstCells]
      · simp [Builtin.append_, run_underlying he.1, sizeOf, typeInfo, hi, Builtin.lenOf, Builtin.firstCells, hn, storeCells]
    | some ad =>
      obtain ⟨v', w', hrun, h2, h3, _, h5⟩ := run_append_own_at (P := P) w B t ty e i0 zv z bytes he.1 hi hzz hs hb hzv hz0 v n xs hown ad 0 cap [] (by simp) (fun j u hu => by simp at hu) (fun u hu => by simp at hu) (by omega) (by simpa using hlen) hB
      exact ⟨v', w', hrun, h2, fin h3 h5⟩
  · obtain ⟨ad, rfl, hc⟩ := hr hne
    obtain ⟨v', w', hrun, h2, h3, _, h5⟩ := run_append_own_at (P := P) w B t ty e i0 zv z bytes he.1 hi hzz hs hb hzv hz0 v n xs hown ad m cap ys hyl hc h1 (by omega) hlen hB
    exact ⟨v', w', hrun, h2, fin h3 h5⟩
theorem wpList_append_app {ops : Array Oper} {rest : List Oper} {o : Oper} {a : Act} {Q : Exit → Act → World → Prop} (hgd : o.guard = none) (s x : Operand) (t : TypeId) (ho : o.op = .call { callee := .builtin .append, args := #[s, x], argTypes := #[t, t] })
    (vx : Value) (n m z : Nat) (ys : List Value) (zv : Value) (bytes : Nat) (he : elemR P t e zv z bytes) (hzv : zv.cells.size = z) (hz0 : 0 < z) (hs : a.eval s = v) (hown : w.ownsRow B e z v n xs) (hx : a.eval x = vx) (hrd : RdR w z vx m ys) (h1 : ∀ u ∈ ys, u.oneCell' = true) (hlen : (n + m) * bytes ≤ 140737488355328) (hl2 : n + m < 140737488355328) (hB : B ≤ w.heap.size)
    (h : ∀ v' w', w'.ownsRow B e z v' (n + m) (xs ++ ys) → App w w' v v' → Below B w w' → wpList P ops Q rest (a.put o.dst v') w') :
    wpList P ops Q (o :: rest) a w := by
  refine wpList_plain hgd fun K hK => ?_
  obtain ⟨v', w', hrun, h2, h3, h4⟩ := run_append_app (P := P) (ty := o.type) he hzv hz0 hown hrd h1 hlen hl2 hB
  unfold Oper.wp execOp
  simp only [ho, resolve, invoke, builtin, Sem.run_bind, Sem.run_pure, Result.andThen_ok, List.map_toArray, List.map_cons, List.map_nil, hs, hx, hrun]
  exact hK _ _ (h v' w' h2 h3 h4)
theorem plan_append_app {ops : Array Oper} {o : Oper} {a : Act} {Q : Exit → Act → World → Prop} {S : World → Prop} {i : Nat} {r : Plan} (s x : Operand) (t : TypeId) (ho : ops.toList[i]? = some o) (hw : Region.wanted o (yielded ops a.tmps) = true) (hop : o.op = .call { callee := .builtin .append, args := #[s, x], argTypes := #[t, t] })
    (vx : Value) (n m z : Nat) (ys : List Value) (zv : Value) (bytes : Nat) (he : elemR P t e zv z bytes) (hzv : zv.cells.size = z) (hz0 : 0 < z) (hs : a.eval s = v) (hown : w.ownsRow B e z v n xs) (hx : a.eval x = vx) (hrd : RdR w z vx m ys) (h1 : ∀ u ∈ ys, u.oneCell' = true) (hlen : (n + m) * bytes ≤ 140737488355328) (hl2 : n + m < 140737488355328) (hB : B ≤ w.heap.size)
    (h : ∀ v' w', w'.ownsRow B e z v' (n + m) (xs ++ ys) → App w w' v v' → Below B w w' → S w' ∧ wpPlan P ops Q S r (a.put o.dst v') w') :
    wpPlan P ops Q S (.sole i r) a w := by
  refine wpOp_at ho hw ?_
  obtain ⟨v', w', hrun, h2, h3, h4⟩ := run_append_app (P := P) (ty := o.type) he hzv hz0 hown hrd h1 hlen hl2 hB
  unfold Oper.wp execOp
  simp only [hop, resolve, invoke, builtin, Sem.run_bind, Sem.run_pure, Result.andThen_ok, List.map_toArray, List.map_cons, List.map_nil, hs, hx, hrun]
  exact h v' w' h2 h3 h4
end
theorem rows_hd {w : World} {B : Nat} {e : TypeId} {z n : Nat} {v : Value} {xs : List Value} (h : w.ownsRow B e z v n xs) : ∃ a c, v = .slice a n c := by
  obtain ⟨_, a, c, e, _⟩ := ownsRow_slR h
  exact ⟨a, c, e⟩
end Sha
end Go.Proofs.YtajdpbbbocnfiaaDoor
namespace Go.Proofs.YtajdpbbbocnfiaaDoor
namespace Sha
open Go.RowKit
theorem itp_root (p x : Nat) (h0 : 1 ≤ p) (h1 : p ≤ 216) (hx : x < p) : itp p x (topn p) + 1 = itn p := by
  have h := itp_lev p x h0 h1 hx (topn p) (Nat.le_refl _)
  have r := root_one p h0 h1
  have s := stn_lvn p (topn p) (top_le p).2
  omega
end Sha
end Go.Proofs.YtajdpbbbocnfiaaDoor
namespace Go.Proofs.YtajdpbbbocnfiaaDoor
namespace Sha
open Go.RowKit Mem
def iz (l : List Int) : List Value := l.map (.int .i64)
theorem iz_length (l : List Int) : (iz l).length = l.length := by simp [iz]
theorem iz_snoc (l : List Int) (x : Int) : iz (l ++ [x]) = iz l ++ [.int .i64 x] := by simp [iz]
theorem iz_get (l : List Int) (i : Nat) (h : i < l.length) : (iz l)[i]? = some (.int .i64 (l.getD i 0)) := by simp [iz, List.getD_eq_getElem?_getD, h]
/-- A slice that reads as ints. -/
def SlI (w : World) (v : Value) (l : List Int) : Prop :=
  ∃ a cap, v = .slice a l.length cap ∧ l.length ≤ cap ∧ (l ≠ [] → ∃ b o, a = some ⟨b, o, none⟩ ∧ b < w.heap.size ∧ ∀ i, i < l.length → w.cell? ⟨b, o + i, none⟩ = some (.int .i64 (l.getD i 0)))
theorem SlI.nil (w : World) : SlI w (.slice none 0 0) [] := ⟨none, 0, rfl, Nat.le_refl _, fun h => absurd rfl h⟩
theorem SlI.hd {w : World} {v : Value} {l : List Int} (h : SlI w v l) : ∃ a c, v = .slice a l.length c := let ⟨a, c, e, _⟩ := h; ⟨a, c, e⟩
theorem SlI.below {w wr : World} {v : Value} {l : List Int} (h : SlI w v l) (hb : Below w.heap.size w wr) : SlI wr v l := by
  obtain ⟨a, cap, e, hc, hr⟩ := h
  refine ⟨a, cap, e, hc, fun hne => ?_⟩
  obtain ⟨b, o, ea, hlt, hcell⟩ := hr hne
  exact ⟨b, o, ea, Nat.lt_of_lt_of_le hlt hb.size, fun i hi => (hb.cell (p := ⟨b, o + i, none⟩) hlt).trans (hcell i hi)⟩
theorem SlI.same {w wr : World} {v : Value} {l : List Int} (h : SlI w v l) (hs : w.heap.size ≤ wr.heap.size) (hk : ∀ b o n c, v = .slice (some ⟨b, o, none⟩) n c → wr.heap[b]? = w.heap[b]?) : SlI wr v l := by
  obtain ⟨a, cap, e, hc, hr⟩ := h
  refine ⟨a, cap, e, hc, fun hne => ?_⟩
  obtain ⟨b, o, ea, hlt, hcell⟩ := hr hne
  refine ⟨b, o, ea, Nat.lt_of_lt_of_le hlt hs, fun i hi => ?_⟩
  rw [World.cell?_of_block (w := w) (w' := wr) (a := ⟨b, o + i, none⟩) (hk b o l.length cap (by rw [e, ea]))]
  exact hcell i hi
theorem sli_at {w : World} {a : Option Addr} {n c i : Nat} {l : List Int} (h : SlI w (.slice a n c) l) (hn : n = l.length) (hi : i < n) : ∃ b o, a = some ⟨b, o, none⟩ ∧ b < w.heap.size ∧ w.cell? ⟨b, o + i, none⟩ = some (.int .i64 (l.getD i 0)) := by
  obtain ⟨a', c', e, _, hr⟩ := h
  obtain ⟨b, o, ea, hlt, hcell⟩ := hr (by intro e0; subst e0; simp at hn; omega)
  injection e with e1 _ _
  subst e1
  exact ⟨b, o, ea, hlt, hcell i (by omega)⟩
theorem sli_cell {w : World} {b o n c i : Nat} {l : List Int} (h : SlI w (.slice (some ⟨b, o, none⟩) n c) l) (hn : n = l.length) (hi : i < n) : w.cell? ⟨b, o + i, none⟩ = some (.int .i64 (l.getD i 0)) := by
  obtain ⟨b', o', e, _, cx⟩ := sli_at h hn hi
  injection e with e
  injection e with e2 e3 _
  subst e2 e3
  exact cx
theorem ownV_sli {w : World} {B : Nat} {e : TypeId} {v : Value} {l : List Int} (h : OwnV w B e v (iz l)) : SlI w v l := by
  obtain ⟨a, cap, rfl, hc, hr⟩ := OwnV.open h
  rw [iz_length] at hc
  refine ⟨a, cap, by rw [iz_length], hc, fun hne => ?_⟩
  obtain ⟨g, ea, _, hlt, hcell⟩ := hr (by intro e0; exact hne (by simpa [iz] using e0))
  exact ⟨g, 0, ea, hlt, fun i hi => by rw [Nat.zero_add]; exact hcell i _ (iz_get l i hi)⟩
/-- It returns a slice that reads as ints. -/
def IEnd (w : World) (L : List Int) (e : Ending) (w' : World) : Prop := ∃ v, e = .returned v ∧ SlI w' v L ∧ Below w.heap.size w w'
theorem infoInt : (Tryd.prog.info? 3).map (·.size) = some 1 := by kernel_rfl
end Sha
end Go.Proofs.YtajdpbbbocnfiaaDoor
namespace Go.Proofs.YtajdpbbbocnfiaaDoor
namespace Sha
open Go.RowKit Mem
set_option maxRecDepth 100000
/-- The document's levels, as it holds them. -/
def zL (p : Nat) : List Int := (List.range (itn p)).map fun i => (lev p i : Int)
def rsC (p : Nat) (vL vF : Value) : Array Value := #[.int .i64 (p : Int), vL, vF]
theorem rsC_one (p : Nat) (a b : Option Addr) (n c m d : Nat) : (rsC p (.slice a n c) (.slice b m d)).all (·.oneCell') = true := by simp [rsC, Value.oneCell']
/-- The document's shape of p pages. -/
structure RS (w : World) (p : Nat) (vL vF : Value) : Prop where
  l : SlI w vL (zL p)
  f : SlI w vF (fstL p (itn p))
theorem RS.below {w w' : World} {p : Nat} {vL vF : Value} (h : RS w p vL vF) (hb : Below w.heap.size w w') : RS w' p vL vF := ⟨h.l.below hb, h.f.below hb⟩
/-- A node's children, as ints: the first so many. -/
def kz (p i n : Nat) : List Int := (List.range n).map fun t => ((fst p i + t : Nat) : Int)
theorem kz_length (p i n : Nat) : (kz p i n).length = n := by simp [kz]
theorem kz_get (p i n t : Nat) (h : t < n) : (kz p i n).getD t 0 = ((fst p i + t : Nat) : Int) := by simp [kz, List.getD_eq_getElem?_getD, h]
def KZ (p : Nat) (z : Int) : List Int := if (p : Int) ≤ z ∧ z < (itn p : Int) then kz p z.toNat (many p z.toNat) else []
theorem elemInt : elemB Tryd.prog 52 3 (.int .i64 0) 8 := ⟨Tryd.underlying52, by kernel_rfl⟩
end Sha
end Go.Proofs.YtajdpbbbocnfiaaDoor
namespace Go.Proofs.YtajdpbbbocnfiaaDoor
namespace Sha
open Go.RowKit Mem
/-- A conversion in a plain region. -/
theorem wpList_conv {P : Program} {ops : Array Oper} {rest : List Oper} {o : Oper} {a : Act} {w : World} {Q : Exit → Act → World → Prop} (hw : Region.wanted o (yielded ops a.tmps) = true) (t1 t2 : TypeId) (x : Operand) (vx v : Value)
    (hop : o.op = .convert t1 t2 x) (hx : a.eval x = vx) (hv : ∀ w', (convert t1 t2 vx).run P w' = .ok v w') (h : wpList P ops Q rest (a.put o.dst v) w) : wpList P ops Q (o :: rest) a w := by
  unfold wpList
  rw [if_pos hw]
  left
  unfold Oper.wp
  have : (execOp a.eval o).run P w = .ok (.value v) w := by
    have := hv w
    simp only [execOp, hop, hx]
    rw [Sem.run_bind, this]; rfl
  rw [this]
  exact h
end Sha
end Go.Proofs.YtajdpbbbocnfiaaDoor
namespace Go.Proofs.YtajdpbbbocnfiaaDoor
namespace Sha
open Go.RowKit Mem
section
variable {P : Program} {ops : Array Oper} {Q : Exit → Act → World → Prop} {S : World → Prop} {w : World} {a : Act} {o : Oper} {i : Nat} {r : Plan}
theorem plan_store_at (ty : TypeId) (x y : Operand) (b k : Nat) (D C E : Array Value) (t : TypeId) (ho : ops.toList[i]? = some o) (hw : Region.wanted o (yielded ops a.tmps) = true) (hop : o.op = .store ty x y) (hdst : o.dst = none)
    (hx : a.eval x = .pointer (some ⟨b, k, none⟩)) (hy : a.eval y = .agg D) (hi : (P.info? ty).map (·.size) = some D.size) (hC : At w b C t) (hn : k + D.size ≤ C.size) (h1 : D.all (·.oneCell') = true) (hE : Mem.splice C k D.toList = E) (hS : S (w.setRow b E))
    (h : wpPlan P ops Q S r a (w.setRow b E)) : wpPlan P ops Q S (.sole i r) a w := by
  refine wpOp_at ho hw ?_
  have hput : a.put o.dst undef = a := by rw [hdst]; rfl
  refine wp_store_mid ty x y hop b k D hx hy (fun j hj => ?_) hi h1 ?_
  · rw [hC.cell, hC.free]
    exact ⟨by simp; omega, rfl⟩
  · rw [setCells_row _ _ _ _ _ hC (by simpa using hn), hput, hE]; exact ⟨hS, h⟩
end
end Sha
end Go.Proofs.YtajdpbbbocnfiaaDoor
