/- My own texts, merged. -/
import Derived.Test.YtajdpbbbocnfiaaGreatDoorBm07
import Derived.Test.YtajdpbbbocnfiaaGreatDoorBm00
import Derived.Test.YtajdpbbbocnfiaaGreatDoorBm08
import Derived.Test.YtajdpbbbocnfiaaGreatDoorBm01
import Derived.OwnWalk
import Derived.Deep.DeepCutAuto
import Derived.Test.YtajdpbbbocnfiaaGreatDoorBm03
import Derived.Test.YtajdpbbbocnfiaaGreatDoorBm05
import Derived.Lib.SliceRun
namespace Go.Proofs.YtajdpbbbocnfiaaGreatDoor
namespace Sha
open Go.RowKit Mem
theorem wb_pow9 (x : BitVec 32) (k : Nat) : V x / 2 ^ k % 256 = ((wb x k).toNat : Int) := wb_val x k _ (by simp)
def SealEnd (w : World) (l : List (BitVec 8)) (n : Int) (e : Ending) (w' : World) : Prop := ∃ v, e = .returned (.tuple #[v, .int .i64 n]) ∧ Sl w' v l ∧ Below w.heap.size w w'
def SealOwn (w : World) (l : List (BitVec 8)) (n : Int) (e : Ending) (w' : World) : Prop := ∃ v, e = .returned (.tuple #[v, .int .i64 n]) ∧ OwnB w' w.heap.size v l ∧ Below w.heap.size w w'
theorem SealOwn.seal {w w' : World} {l : List (BitVec 8)} {n : Int} {e : Ending} (h : SealOwn w l n e w') : SealEnd w l n e w' := let ⟨v, e, hs, hb⟩ := h; ⟨v, e, OwnB.sl hs, hb⟩
theorem sl_inv {w : World} {v : Value} {l : List (BitVec 8)} (h : Sl w v l) : ∃ a c, v = .slice a l.length c := let ⟨a, c, e, _⟩ := h; ⟨a, c, e⟩
theorem ret_tmp_row_tmp {P : Program} {fn : Func} {R : Ending → World → Prop} {tmps : Array Value} {w : World} {q p u : Tmp} {ty : TypeId} (h : fn.results = #[.tmp q, .cell p ty, .tmp u]) (g : Nat) (t : TypeId) (cs : Array Value) (d : TypeDesc) (v1 v : Value)
 (hq : tmps.getD q undef = v1) (hp : tmps.getD p undef = .pointer (some ⟨g, 0, none⟩)) (hv : tmps.getD u undef = v) (hg : At w g cs t) (hu : P.underlying ty = some d) (hd : d.isRow = true) (hi : (P.info? ty).map (·.size) = some cs.size)
 (hR : R (.returned (.tuple #[v1, .agg cs, v])) w) : bodyPost P fn R .ret ⟨tmps, []⟩ w := by
 refine bodyPost_ret (v := .tuple #[v1, .agg cs, v]) ?_ rfl hR
 have hrow := run_loadVar_row (P := P) w g t ty cs (0, 0) d hg hu (by cases d <;> first | rfl | exact hd) hi
 rw [Array.getD_eq_getD_getElem?] at hq hp hv
 simp only [results, h]
 simp [Result.andThen, hq, hp, hv, asAddr, hrow]
def ThreeEnd (w : World) (l : List (BitVec 8)) (r : RefV) (n : Int) (e : Ending) (w' : World) : Prop := ∃ v, e = .returned (.tuple #[v, .agg (refC r), .int .i64 n]) ∧ Sl w' v l ∧ Below w.heap.size w w'
def ThreeOwn (w : World) (l : List (BitVec 8)) (r : RefV) (n : Int) (e : Ending) (w' : World) : Prop := ∃ v, e = .returned (.tuple #[v, .agg (refC r), .int .i64 n]) ∧ OwnB w' w.heap.size v l ∧ Below w.heap.size w w'
theorem ThreeOwn.three {w w' : World} {l : List (BitVec 8)} {r : RefV} {n : Int} {e : Ending} (h : ThreeOwn w l r n e w') : ThreeEnd w l r n e w' := let ⟨v, e, hs, hb⟩ := h; ⟨v, e, OwnB.sl hs, hb⟩
theorem buildPf0 (w : World) : (Instr.build 31 #[]).run Tryz.prog w = .ok (.agg (refC zref)) w := run_build w _ _ _ (by kernel_rfl)
end Sha
end Go.Proofs.YtajdpbbbocnfiaaGreatDoor
namespace Go.Proofs.YtajdpbbbocnfiaaGreatDoor
namespace Sha
open Go.RowKit
def atB (i j : Nat) : Nat := i * 6 ^ j
def enN (p a i j : Nat) : Nat := min ((i + 1) * 6 ^ j) (lvn p (a - j))
theorem atB_succ (i j : Nat) : atB i (j + 1) = atB i j * 6 := by unfold atB; rw [Nat.pow_succ, Nat.mul_assoc]
theorem enN_succ (p a i j : Nat) (ha : a ≤ 3) (hj : j + 1 ≤ a) : enN p a i (j + 1) = min (enN p a i j * 6) (lvn p (a - (j + 1))) := by
 have c := lvn_cnt p (a - (j + 1)) (by omega)
 rw [show a - (j + 1) + 1 = a - j by omega] at c
 have l := cnt_le (lvn p (a - (j + 1)))
 have e : (i + 1) * 6 ^ (j + 1) = (i + 1) * 6 ^ j * 6 := by rw [Nat.pow_succ, Nat.mul_assoc]
 unfold enN
 rw [e, c]
 omega
theorem en_le (p a i j : Nat) (ha : a ≤ 3) (h1 : p ≤ 216) : enN p a i j ≤ 216 := by
 have := (stn_le p (a - j) (by omega) h1).2
 unfold enN
 omega
theorem at_lt (p a i : Nat) (ha : a ≤ 3) (hi : i < lvn p a) : ∀ j, j ≤ a → atB i j < enN p a i j := by
 intro j
 induction j with
 | zero => intro _; unfold atB enN; rw [Nat.pow_zero, Nat.mul_one, Nat.mul_one, Nat.sub_zero]; omega
 | succ j ih =>
  intro hj
  have h := ih (by omega)
  have c := lvn_cnt p (a - (j + 1)) (by omega)
  rw [show a - (j + 1) + 1 = a - j by omega] at c
  have l := cnt_le (lvn p (a - (j + 1)))
  have h2 : enN p a i j ≤ lvn p (a - j) := Nat.min_le_right _ _
  rw [atB_succ, enN_succ p a i j ha hj]
  omega
def bel (s m : Nat) (n : Nat) : List Int := (List.range n).map fun x => ((s + (m + x) : Nat) : Int)
theorem bel_length (s m n : Nat) : (bel s m n).length = n := by simp [bel]
theorem bel_succ (s m n : Nat) : bel s m (n + 1) = bel s m n ++ [((s + (m + n) : Nat) : Int)] := by simp [bel, List.range_succ]
def belL (p a i b : Nat) : List Int := bel (stn p b) (atB i (a - b)) (enN p a i (a - b) - atB i (a - b))
theorem bel_kids (p q a : Nat) (_h0 : 1 ≤ p) (_h1 : p ≤ 216) (hp : p ≤ q) (hq : q < itn p) (ha : lev p q = a + 1) : belL p (a + 1) (q - stn p (a + 1)) a = KZ p (q : Int) := by
 rw [KZ_nat p q hq, if_pos hp]
 have h4 := itn_le p
 have hlo := lev_lo p q
 have hhi := lev_hi p q (by omega)
 have hl3 := lev_le p q
 rw [ha] at hlo hhi hl3
 have s1 := stn_lvn p a (by omega)
 have e1 : fst p q = stn p a + 6 * (q - stn p (a + 1)) := by unfold fst; rw [ha, Nat.add_sub_cancel]
 have e2 : many p q = min 6 (stn p (a + 1) - fst p q) := by unfold many; rw [ha]
 have hn : enN p (a + 1) (q - stn p (a + 1)) (a + 1 - a) - atB (q - stn p (a + 1)) (a + 1 - a) = many p q := by
  rw [show a + 1 - a = 1 by omega]
  unfold enN atB
  rw [Nat.pow_one, show a + 1 - 1 = a by omega, e2, e1]
  omega
 unfold belL
 rw [hn]
 unfold bel kz
 refine List.map_congr_left (fun x _ => ?_)
 rw [show a + 1 - a = 1 by omega, e1]
 unfold atB
 rw [Nat.pow_one]
 omega
theorem lev_node' (p q : Nat) (h : p ≤ q) : 1 ≤ lev p q := by
 unfold lev
 rw [if_neg (by omega)]
 split
 ·omega
 ·split <;> omega
end Sha
end Go.Proofs.YtajdpbbbocnfiaaGreatDoor
namespace Go.Proofs.YtajdpbbbocnfiaaGreatDoor
namespace Sha
open Go.RowKit Mem
structure St6 where
 n : Nat
 b : List (BitVec 8)
 w : List (Nat × List (BitVec 8))
 sh : List (List (BitVec 8))
 t : List Int
def putC : List (Nat × Value) → List Value
 | [] => []
 | p :: l => .int .i64 (p.1 : Int) :: p.2 :: putC l
theorem putC_snoc (p : Nat × Value) : ∀ l, putC (l ++ [p]) = putC l ++ [.int .i64 (p.1 : Int), p.2]
 | [] => rfl
 | _ :: l => by simp [putC, putC_snoc p l]
theorem putC_at : ∀ (l : List (Nat × Value)) (i : Nat) (p : Nat × Value), l[i]? = some p → (putC l)[2 * i]? = some (.int .i64 (p.1 : Int)) ∧ (putC l)[2 * i + 1]? = some p.2
 | q :: l, 0, p, h => by
  have hq : q = p := by simpa using h
  subst hq
  exact ⟨rfl, rfl⟩
 | q :: l, i + 1, p, h => by
  have h' : l[i]? = some p := by simpa using h
  have := putC_at l i p h'
  simpa [putC, Nat.mul_add] using this
def WPut (G : Foot) (w : World) (v : Value) (l : List (Nat × List (BitVec 8))) : Prop := ∃ ws : List (Nat × Value), Each2 (fun p q => p.1 = q.1 ∧ SlB G w p.2 q.2) ws l ∧ SlR G w 2 v l.length (putC ws)
def WSh (G : Foot) (w : World) (v : Value) (l : List (List (BitVec 8))) : Prop := ∃ hs : List Value, Each2 (fun p q => SlB G w p q) hs l ∧ SlR G w 1 v l.length hs
def i64s (l : List Int) : List Value := l.map fun k => .int .i64 k
def WTr (G : Foot) (w : World) (v : Value) (l : List Int) : Prop := SlR G w 1 v l.length (i64s l)
theorem WPut.keep {G : Foot} {w w' : World} {v : Value} {l : List (Nat × List (BitVec 8))} (h : WPut G w v l) (hs : w.heap.size ≤ w'.heap.size) (hk : ∀ k, G k → k < w.heap.size → w'.heap[k]? = w.heap[k]?) : WPut G w' v l := by
 obtain ⟨ws, h1, h2⟩ := h
 exact ⟨ws, h1.mono fun _ _ h => ⟨h.1, h.2.keep hs hk⟩, h2.keep hs hk⟩
theorem WPut.mono {G H : Foot} {w : World} {v : Value} {l : List (Nat × List (BitVec 8))} (h : WPut G w v l) (hs : ∀ k, G k → k < w.heap.size → H k) : WPut H w v l := by
 obtain ⟨ws, h1, h2⟩ := h
 exact ⟨ws, h1.mono fun _ _ h => ⟨h.1, h.2.mono hs⟩, h2.mono hs⟩
theorem WSh.keep {G : Foot} {w w' : World} {v : Value} {l : List (List (BitVec 8))} (h : WSh G w v l) (hs : w.heap.size ≤ w'.heap.size) (hk : ∀ k, G k → k < w.heap.size → w'.heap[k]? = w.heap[k]?) : WSh G w' v l := by
 obtain ⟨ws, h1, h2⟩ := h
 exact ⟨ws, h1.mono fun _ _ h => h.keep hs hk, h2.keep hs hk⟩
theorem WSh.mono {G H : Foot} {w : World} {v : Value} {l : List (List (BitVec 8))} (h : WSh G w v l) (hs : ∀ k, G k → k < w.heap.size → H k) : WSh H w v l := by
 obtain ⟨ws, h1, h2⟩ := h
 exact ⟨ws, h1.mono fun _ _ h => h.mono hs, h2.mono hs⟩
theorem WPut.hd {G : Foot} {w : World} {v : Value} {l : List (Nat × List (BitVec 8))} (h : WPut G w v l) : ∃ a cap, v = .slice a l.length cap := by
 obtain ⟨_, _, _, a, cap, e, _⟩ := h; exact ⟨a, cap, e⟩
theorem WSh.hd {G : Foot} {w : World} {v : Value} {l : List (List (BitVec 8))} (h : WSh G w v l) : ∃ a cap, v = .slice a l.length cap := by
 obtain ⟨_, _, _, a, cap, e, _⟩ := h; exact ⟨a, cap, e⟩
theorem WTr.hd {G : Foot} {w : World} {v : Value} {l : List Int} (h : WTr G w v l) : ∃ a cap, v = .slice a l.length cap := by
 obtain ⟨_, a, cap, e, _⟩ := h; exact ⟨a, cap, e⟩
theorem SlB.hd {G : Foot} {w : World} {v : Value} {l : List (BitVec 8)} (h : SlB G w v l) : ∃ a cap, v = .slice a l.length cap := by
 obtain ⟨_, a, cap, e, _⟩ := h; exact ⟨a, cap, e⟩
structure Four (G : Foot) (w : World) (vb vw vs vt : Value) (s : St6) : Prop where
 fb : SlB G w vb s.b
 fw : WPut G w vw s.w
 fs : WSh G w vs s.sh
 ft : WTr G w vt s.t
theorem Four.keep {G : Foot} {w w' : World} {vb vw vs vt : Value} {s : St6} (h : Four G w vb vw vs vt s) (hs : w.heap.size ≤ w'.heap.size) (hk : ∀ k, G k → k < w.heap.size → w'.heap[k]? = w.heap[k]?) : Four G w' vb vw vs vt s :=
 ⟨h.fb.keep hs hk, h.fw.keep hs hk, h.fs.keep hs hk, SlR.keep h.ft hs hk⟩
theorem Four.mono {G H : Foot} {w : World} {vb vw vs vt : Value} {s : St6} (h : Four G w vb vw vs vt s) (hs : ∀ k, G k → k < w.heap.size → H k) : Four H w vb vw vs vt s :=
 ⟨h.fb.mono hs, h.fw.mono hs, h.fs.mono hs, SlR.mono h.ft hs⟩
structure StEnd (R : Foot → Nat → World → St6 → Prop) (F : Foot) (br : Nat) (w : World) (s : St6) (w' : World) : Prop where
 h : ∃ F', R F' br w' s ∧ ∀ k, F' k → F k ∨ w.heap.size ≤ k
 c : Chg F w w'
theorem StEnd.trans {R : Foot → Nat → World → St6 → Prop} {F F1 : Foot} {br : Nat} {w w1 w2 : World} {s2 : St6} (hc : Chg F w w1) (hx : ∀ k, F1 k → F k ∨ w.heap.size ≤ k) (k : StEnd R F1 br w1 s2 w2) : StEnd R F br w s2 w2 := by
 obtain ⟨F', h1, h2⟩ := k.h
 exact ⟨⟨F', h1, fun k hk => (h2 k hk).elim (hx k) (fun h => .inr (Nat.le_trans hc.size h))⟩, hc.trans k.c hx⟩
set_option maxRecDepth 100000 in
set_option maxHeartbeats 1000000 in
theorem pclone_any (l : List (BitVec 8)) (v : Value) (w : World) (bl : l.length ≤ 1000000) (hv : Sl w v l) : Calls Tryz.prog 46 #[v] w (PadEnd w l) := by
 have q22 : ∀ (w : World) (a : Option Addr) (n c n' c' : Nat), (binOp .eql 39 (.slice a n c) (.slice none n' c')).run Tryz.prog w = .ok (.bool a.isNone) w := fun w a n c n' c' => Lib.run_eql_slice_nil w _ _ a n c n' c' Tryz.underlying39
 have hv0 := hv
 obtain ⟨a0, cap, rfl, _, hr⟩ := hv
 obtain ⟨m, hm⟩ : ∃ m, m = l.length := ⟨_, rfl⟩
 cases a0 with
 | none =>
  have hl : l = [] := by
   rcases l with _ | ⟨x, l⟩
   ·rfl
   ·obtain ⟨_, _, h, _⟩ := hr (by simp)
    cases h
  subst hl
  clear hr hv0 hm
  go_enter Tryz.func46, Tryz.ntmps46
  go_wp2
  go_ret
  exact ⟨_, rfl, OwnB.nil _ _, Below.refl _ _⟩
 | some ad =>
  have hsl : Sl (w.alloc (.cells #[] 5)) (.slice (some ad) l.length cap) l := hv0.below ((Below.refl _ _).alloc (Nat.le_refl _) _)
  have hb0 : Below w.heap.size w (w.alloc (.cells #[] 5)) := (Below.refl _ _).alloc (Nat.le_refl _) _
  have how : OwnB (w.alloc (.cells #[] 5)) w.heap.size (.slice (some ⟨w.heap.size, 0, none⟩) 0 0) [] := own_none w w.heap.size (Nat.le_refl _)
  rw [← hm] at bl hsl ⊢
  have HV := zh hsl; have HM := zh hm; have HB := zh hb0; have HO := zh how
  clear hv0 hm hr hsl hb0 how
  go_enter Tryz.func46, Tryz.ntmps46
  go_wp2_with (at_builtin; refine wpList_append_bytes zr _ _ zr w.heap.size (.slice (some ⟨w.heap.size, 0, none⟩) 0 0) (.slice (some ad) m cap) [] l zr HO.out zr HV.out (by rw [List.length_nil, ← HM.out]; omega) (by simp) ?_; intro v5 w5 ho5 _ hb5; have O5 := zh ho5; have B5 := zh (HB.out.trans hb5); clear ho5 hb5)
  go_ret
  exact ⟨_, rfl, by simpa using O5.out, B5.out⟩
theorem lay_rfOf (b : List (BitVec 8)) (hl : b.length = 37) : layRf (rfOf b) = b := by
 match b, hl with
 | b0 :: b1 :: b2 :: b3 :: b4 :: t, _ =>
  have e0 : BitVec.ofInt 8 ((b0.toNat : Nat) : Int) = b0 := by
   apply BitVec.eq_of_toNat_eq
   have := b0.isLt
   rw [BitVec.toNat_ofInt]
   omega
  have e1 := le4_lew b1 b2 b3 b4 t
  show [BitVec.ofInt 8 ((b0.toNat : Nat) : Int)] ++ le4 (lew (b1 :: b2 :: b3 :: b4 :: t) 0) ++ t = _
  rw [e0, e1]; rfl
theorem pieces_flat (p : List (BitVec 8)) (hp : p.length = 256) : ∀ m, m ≤ 6 → (refsN p m).flatMap layRf = (p.drop 1).take (37 * m) := by
 intro m
 induction m with
 | zero => intro _; rfl
 | succ m ih =>
  intro hm
  rw [refsN_succ, List.flatMap_append, ih (by omega)]
  have e : [rfOf (pieceN p m)].flatMap layRf = pieceN p m := by
   rw [List.flatMap_cons, List.flatMap_nil, List.append_nil]
   exact lay_rfOf _ (piece_length p m hp (by omega))
  rw [e]
  unfold pieceN
  rw [show 37 * (m + 1) = 37 * m + 37 by omega, List.take_add, List.drop_drop]
theorem body_page (p : List (BitVec 8)) (hp : p.length = 256) (m : Nat) (hm : m ≤ 6) (h0 : (p.getD 0 0).toNat = m) : bodyN (refsN p m) m = p.take (1 + 37 * m) := by
 have hl := refsN_length p m
 unfold bodyN
 rw [hl, List.take_of_length_le (by rw [hl]; exact Nat.le_refl _), pieces_flat p hp m hm]
 match p, hp with
 | x :: t, _ =>
  have hx : x.toNat = m := h0
  have e : BitVec.ofNat 8 m = x := by
   apply BitVec.eq_of_toNat_eq
   have := x.isLt
   rw [BitVec.toNat_ofNat, hx]
   omega
  rw [e, Nat.add_comm 1, List.take_succ_cons]; rfl
def zerosFrom (p : List (BitVec 8)) (k : Nat) : Prop := ∀ j, k ≤ j → j < p.length → p.getD j 0 = 0
theorem drop_zeros (p : List (BitVec 8)) (k : Nat) (h : zerosFrom p k) : p.drop k = List.replicate (p.length - k) 0 := by
 apply List.ext_getElem
 ·simp
 ·intro i h1 h2
  rw [List.getElem_drop, List.getElem_replicate]
  have hi : k + i < p.length := by simp at h1; omega
  have := h (k + i) (by omega) hi
  simpa [List.getD_eq_getElem?_getD, hi] using this
theorem places_ok (p : List (BitVec 8)) (m : Nat) (h : ∀ i, i < m → ((pieceN p i).getD 0 0).toNat ≤ 1) : (refsN p m).all plOk = true := by
 rw [List.all_eq_true]
 intro r hr
 obtain ⟨i, hi, rfl⟩ := List.mem_map.1 hr
 have h1 := h i (List.mem_range.1 hi)
 exact decide_eq_true (show 0 ≤ (((pieceN p i).getD 0 0).toNat : Int) ∧ (((pieceN p i).getD 0 0).toNat : Int) ≤ 1 by omega)
theorem allN_good (p : List (BitVec 8)) (hp : p.length = 256) (m : Nat) (h0 : (p.getD 0 0).toNat = m) (h1 : 1 ≤ m) (h6 : m ≤ 6) (hpl : ∀ i, i < m → ((pieceN p i).getD 0 0).toNat ≤ 1) (hz : zerosFrom p (1 + 37 * m)) : allN p = (refsN p m, 0) := by
 have hm : manyN p = m := by unfold manyN; omega
 have hl := refsN_length p m
 have hlay : layN (refsN p m) = (p, 0) := by
  unfold layN
  rw [if_neg (by rw [hl, places_ok p m hpl]; rintro (a | a | a); omega; omega; cases a), hl, body_page p hp m h6 h0]
  have e := drop_zeros p (1 + 37 * m) hz
  rw [hp] at e
  rw [← e, List.take_append_drop]
 unfold allN
 rw [if_neg (fun x => x hp), hm, if_pos hlay]
theorem allN_few (p : List (BitVec 8)) (hp : p.length = 256) (h : (p.getD 0 0).toNat < 1 ∨ 6 < (p.getD 0 0).toNat) : allN p = ([], 9) := by
 unfold allN
 rw [if_neg (fun x => x hp)]
 refine if_neg (fun hl => ?_)
 have hm := (lay_many hl).2
 have hr := refsN_length p (manyN p)
 rw [hr] at hm
 unfold manyN at hm
 have h1 := (layN_ok hl).1
 rw [hr] at h1
 unfold manyN at h1
 omega
theorem allN_tail (p : List (BitVec 8)) (hp : p.length = 256) (m j : Nat) (h0 : (p.getD 0 0).toNat = m) (h6 : m ≤ 6) (hj : 1 + 37 * m ≤ j) (_hj2 : j < 256) (hne : p.getD j 0 ≠ 0) : allN p = ([], 9) := by
 have hm : manyN p = m := by unfold manyN; omega
 unfold allN
 rw [if_neg (fun x => x hp), hm]
 refine if_neg (fun hl => hne ?_)
 have hok := (layN_ok hl).2.2
 have hr := refsN_length p m
 rw [hr, body_page p hp m h6 h0] at hok
 rw [hok, List.getD_eq_getElem?_getD, List.getElem?_append_right (by rw [List.length_take]; omega), List.getElem?_replicate]
 split <;> rfl
theorem allN_place (p : List (BitVec 8)) (hp : p.length = 256) (m i : Nat) (h0 : (p.getD 0 0).toNat = m) (h6 : m ≤ 6) (hi : i < m) (h : 1 < ((pieceN p i).getD 0 0).toNat) : allN p = ([], 9) := by
 have hm : manyN p = m := by unfold manyN; omega
 unfold allN
 rw [if_neg (fun x => x hp), hm, bad_piece p i m hi h, if_neg (by intro e; injection e with _ e; cases e)]
end Sha
end Go.Proofs.YtajdpbbbocnfiaaGreatDoor
