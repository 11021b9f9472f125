/- Wrapped keys: mathematics, and as cells. Wrapped keys as values: zero, built, compared. The document's key of bytes, Halves, and a key turned. The document's key turned, and check. The document's check. The document's Wrap and Unwrap. The document's Unwrap. What the laws of layer 10 ask of the program: its contracts; alive; far; wrapped keys turned into each other's type. Layer 10: alive, over the program's contracts. Numbers and texts as bytes: mathematics. Package pack's Num of four bytes. The program's areRounds, turn and checked. The program's Halves. The program's Wrap. The program's Unwrap. The program's Again. -/
import Derived.Test.YtjadjidjfkahpaaDoorBF
import Derived.Test.YtjadjidjfkahpaaDoorBD
import Derived.Test.YtjadjidjfkahpaaDoorBA
import Derived.Test.YtjadjidjfkahpaaDoorBG
import Derived.Test.YtjadjidjfkahpaaDoorBE
import Derived.Deep.DeepCutAuto
import Derived.Lib.SlBytesConst
import Derived.Laws.BitsAllLaws
import Derived.Lib.SliceRun
namespace Go.Proofs.YtjadjidjfkahpaaDoor
namespace Sha
open Go.RowKit Mem
theorem sl_hdw {w : World} {v : Value} {l : List (BitVec 8)} (h : Sl w v l) : ∃ a c, v = .slice a l.length c := let ⟨a, c, e, _⟩ := h; ⟨a, c, e⟩
def z32 : List (BitVec 8) := List.replicate 32 0
def z16 : List (BitVec 8) := List.replicate 16 0
/-- A wrapped key, its arrays as lists. -/
structure WrV where
  salt : List (BitVec 8)
  r : Int
  key : List (BitVec 8)
  ck : List (BitVec 8)
structure WrV.Wf (v : WrV) : Prop where
  salt : v.salt.length = 16
  r0 : -9223372036854775808 ≤ v.r
  r1 : v.r ≤ 9223372036854775807
  key : v.key.length = 32
  ck : v.ck.length = 32
def zwr : WrV := ⟨z16, 0, z32, z32⟩
theorem zwr_wf : zwr.Wf := ⟨rfl, by decide, by decide, rfl, rfl⟩
def wrL (v : WrV) : List Value := u8s v.salt ++ ([.int .i64 v.r] ++ (u8s v.key ++ u8s v.ck))
def wrC (v : WrV) : Array Value := (wrL v).toArray
theorem wrL_length {v : WrV} (h : v.Wf) : (wrL v).length = 81 := by simp [wrL, u8s_length, h.salt, h.key, h.ck]
theorem wrC_size {v : WrV} (h : v.Wf) : (wrC v).size = 81 := by simp [wrC, wrL_length h]
theorem wrC_one (v : WrV) : (wrC v).all (·.oneCell') = true := by
  rw [Array.all_eq_true]
  intro i hi
  have hm : (wrC v)[i] ∈ wrL v := by
    have h : (wrC v)[i] ∈ wrC v := Array.getElem_mem hi
    exact Array.mem_toList_iff.2 h
  generalize (wrC v)[i] = u at hm
  simp only [wrL, List.mem_append, List.mem_cons, List.not_mem_nil, or_false] at hm
  rcases hm with hm | rfl | hm | hm
  all_goals first | rfl | exact u8s_cells _ _ hm
theorem wr_salt {v : WrV} (h : v.Wf) : (wrC v).extract 0 (0 + 16) = (u8s v.salt).toArray := by
  apply Array.ext'
  have e := u8s_length v.salt
  rw [h.salt] at e
  simp only [wrC, wrL, Array.toList_extract, List.extract_eq_take_drop]
  rw [List.drop_zero, List.take_append_of_le_length (by omega), List.take_of_length_le (by omega)]
theorem wr_r {v : WrV} (h : v.Wf) : (wrC v)[16]? = some (.int .i64 v.r) := by
  simp only [wrC, wrL, List.getElem?_toArray]
  rw [List.getElem?_append_right (by rw [u8s_length, h.salt]; exact Nat.le_refl _), u8s_length, h.salt]; rfl
theorem wr_drop17 {v : WrV} (h : v.Wf) : (wrL v).drop 17 = u8s v.key ++ u8s v.ck := by
  have e := u8s_length v.salt
  rw [h.salt] at e
  show (u8s v.salt ++ (([.int .i64 v.r] : List Value) ++ (u8s v.key ++ u8s v.ck))).drop 17 = _
  rw [show (17 : Nat) = (u8s v.salt).length + 1 by omega, List.drop_append, List.drop_eq_nil_of_le (by omega), show (u8s v.salt).length + 1 - (u8s v.salt).length = 1 by omega]; rfl
theorem wr_key {v : WrV} (h : v.Wf) : (wrC v).extract 17 (17 + 32) = (u8s v.key).toArray := by
  apply Array.ext'
  have e := u8s_length v.key
  rw [h.key] at e
  simp only [wrC, Array.toList_extract, List.extract_eq_take_drop]
  rw [wr_drop17 h, List.take_append_of_le_length (by omega), List.take_of_length_le (by omega)]
theorem wr_drop49 {v : WrV} (h : v.Wf) : (wrL v).drop 49 = u8s v.ck := by
  have e := u8s_length v.key
  rw [h.key] at e
  rw [show (49 : Nat) = 17 + 32 by rfl, ← List.drop_drop, wr_drop17 h, show (32 : Nat) = (u8s v.key).length by omega, List.drop_left]
theorem wr_ck {v : WrV} (h : v.Wf) : (wrC v).extract 49 (49 + 32) = (u8s v.ck).toArray := by
  apply Array.ext'
  have e := u8s_length v.ck
  rw [h.ck] at e
  simp only [wrC, Array.toList_extract, List.extract_eq_take_drop]
  rw [wr_drop49 h, List.take_of_length_le (by omega)]
theorem wr_setck {v : WrV} (h : v.Wf) (c : List (BitVec 8)) (hc : c.length = 32) : Mem.splice (wrC v) 49 (u8s c).toArray.toList = wrC { v with ck := c } := by
  have e1 := u8s_length v.salt
  have e2 := u8s_length v.key
  have e3 := u8s_length c
  have e4 := wrL_length h
  rw [h.salt] at e1
  rw [h.key] at e2
  rw [hc] at e3
  unfold Mem.splice
  simp only [wrC]
  congr 1
  rw [List.drop_eq_nil_of_le (by rw [e3, e4]; decide), List.append_nil]
  have e5 : (wrL v).take 49 = u8s v.salt ++ (([.int .i64 v.r] : List Value) ++ u8s v.key) := by
    have e6 : wrL v = (u8s v.salt ++ (([.int .i64 v.r] : List Value) ++ u8s v.key)) ++ u8s v.ck := by simp [wrL]
    rw [e6, List.take_append_of_le_length (by simp [e1, e2]), List.take_of_length_le (by simp [e1, e2])]
  rw [e5]
  simp [wrL]
theorem wr_eq {a b : WrV} (h1 : a.salt = b.salt) (h2 : a.r = b.r) (h3 : a.key = b.key) (h4 : a.ck = b.ck) : a = b := by
  obtain ⟨_, _, _, _⟩ := a
  obtain ⟨_, _, _, _⟩ := b
  simp only at h1 h2 h3 h4
  rw [h1, h2, h3, h4]
def sameWr (a b : WrV) : Bool := (a.salt == b.salt) && ((a.r == b.r) && ((a.key == b.key) && (a.ck == b.ck)))
theorem sameWr_iff (a b : WrV) : sameWr a b = true ↔ a = b := by
  simp only [sameWr, Bool.and_eq_true, beq_iff_eq]
  exact ⟨fun ⟨h1, h2, h3, h4⟩ => wr_eq h1 h2 h3 h4, fun h => by subst h; exact ⟨rfl, rfl, rfl, rfl⟩⟩
theorem sameWr_self (a : WrV) : sameWr a a = true := (sameWr_iff a a).2 rfl
/-- Whether rounds are none. -/
def rBad (r : Int) : Bool := decide (r < 1 ∨ 100 < r)
theorem rBad_iff (r : Int) : rBad r = true ↔ (r < 1 ∨ 100 < r) := by simp [rBad]
/-- Halves: both, and the error. -/
def half1 (p s : List (BitVec 8)) (r : Int) : List (BitVec 8) := (stretched p s r.toNat 64).take 32
def half2 (p s : List (BitVec 8)) (r : Int) : List (BitVec 8) := (stretched p s r.toNat 64).drop 32
theorem half1_length (p s : List (BitVec 8)) (r : Int) : (half1 p s r).length = 32 := by simp [half1, stretched_length]
theorem half2_length (p s : List (BitVec 8)) (r : Int) : (half2 p s r).length = 32 := by simp [half2, stretched_length]
def halvesR (p s : List (BitVec 8)) (r : Int) : List (BitVec 8) × List (BitVec 8) × Int := if rBad r then (z32, z32, 1) else (half1 p s r, half2 p s r, 0)
/-- A key turned by another one. -/
def turnK (k x : List (BitVec 8)) : List (BitVec 8) := cturn x (cstream k (cnonce 0 0) 0 x.length)
theorem turnK_length (k x : List (BitVec 8)) : (turnK k x).length = x.length := cturn_length _ _ (by rw [cstream_length]; exact Nat.le_refl _)
theorem turnK_back (k x : List (BitVec 8)) : turnK k (turnK k x) = x := by
  show cturn (turnK k x) (cstream k _ 0 (turnK k x).length) = x
  rw [turnK_length]
  exact cturn_back _ _ (by rw [cstream_length]; exact Nat.le_refl _)
/-- Rounds as bytes; the check. -/
def rb4 (r : Int) : List (BitVec 8) := [BitVec.ofInt 8 r, BitVec.ofInt 8 (r / 256), BitVec.ofInt 8 (r / 65536), BitVec.ofInt 8 (r / 16777216)]
def ckK (b s : List (BitVec 8)) (r : Int) (key : List (BitVec 8)) : List (BitVec 8) := macOf b (s ++ rb4 r ++ key)
theorem ckK_length (b s : List (BitVec 8)) (r : Int) (key : List (BitVec 8)) : (ckK b s r key).length = 32 := macOf_length _ _
/-- Wrap: the wrapped key, and the error. -/
def wrapV (p s : List (BitVec 8)) (r : Int) (m : List (BitVec 8)) : WrV := ⟨s, r, turnK (half1 p s r) m, ckK (half2 p s r) s r (turnK (half1 p s r) m)⟩
def wrapR (p s : List (BitVec 8)) (r : Int) (m : List (BitVec 8)) : WrV × Int := if rBad r then (zwr, 1) else (wrapV p s r m, 0)
/-- Unwrap: the key, and the error. -/
def unwrapR (p : List (BitVec 8)) (v : WrV) : List (BitVec 8) × Int :=
  if rBad v.r then (z32, 1) else if ckK (half2 p v.salt v.r) v.salt v.r v.key ≠ v.ck then (z32, 10) else (turnK (half1 p v.salt v.r) v.key, 0)
/-- Again: the wrapped key, and the error. -/
def againR (old p s : List (BitVec 8)) (v : WrV) : WrV × Int :=
  if (unwrapR old v).2 ≠ 0 then (zwr, (unwrapR old v).2) else wrapR p s v.r (unwrapR old v).1
theorem wr_mk (s : List (BitVec 8)) (r : Int) (k c : List (BitVec 8)) (hs : s.length = 16) (hk : k.length = 32) (hc : c.length = 32) (h0 : -9223372036854775808 ≤ r) (h1 : r ≤ 9223372036854775807) : WrV.Wf ⟨s, r, k, c⟩ := ⟨hs, h0, h1, hk, hc⟩
theorem wrapV_wf (p s : List (BitVec 8)) (r : Int) (m : List (BitVec 8)) (hs : s.length = 16) (hm : m.length = 32) (h0 : -9223372036854775808 ≤ r) (h1 : r ≤ 9223372036854775807) : (wrapV p s r m).Wf := by
  have hk : (turnK (half1 p s r) m).length = 32 := by rw [turnK_length, hm]
  have hc := ckK_length (half2 p s r) s r (turnK (half1 p s r) m)
  unfold wrapV
  generalize ckK (half2 p s r) s r (turnK (half1 p s r) m) = c at *
  generalize turnK (half1 p s r) m = k at *
  exact wr_mk s r k c hs hk hc h0 h1
theorem wrapR_wf (p s : List (BitVec 8)) (r : Int) (m : List (BitVec 8)) (hs : s.length = 16) (hm : m.length = 32) (h0 : -9223372036854775808 ≤ r) (h1 : r ≤ 9223372036854775807) : (wrapR p s r m).1.Wf := by
  unfold wrapR
  split
  · exact zwr_wf
  · exact wrapV_wf p s r m hs hm h0 h1
theorem unwrapR_len (p : List (BitVec 8)) (v : WrV) (h : v.Wf) : (unwrapR p v).1.length = 32 := by
  unfold unwrapR
  split
  · rfl
  · split
    · rfl
    · show (turnK _ _).length = 32; rw [turnK_length, h.key]
theorem unwrapR_good (p s : List (BitVec 8)) (r : Int) (k c : List (BitVec 8)) (hr : rBad r = false) (hc : ckK (half2 p s r) s r k = c) : unwrapR p ⟨s, r, k, c⟩ = (turnK (half1 p s r) k, 0) := by
  unfold unwrapR
  simp only
  rw [hr, if_neg (by decide), if_neg (fun h => h hc)]
theorem unwrap_wrap (p s : List (BitVec 8)) (r : Int) (m : List (BitVec 8)) (hr : rBad r = false) : unwrapR p (wrapV p s r m) = (m, 0) := by
  unfold wrapV
  rw [unwrapR_good p s r _ _ hr rfl, turnK_back]
end Sha
end Go.Proofs.YtjadjidjfkahpaaDoor
namespace Go.Proofs.YtjadjidjfkahpaaDoor
namespace Sha
open Go.RowKit Mem
set_option maxRecDepth 100000
theorem zeroWrR (w : World) : (zeroValue 34).run Tryd.prog w = .ok (.agg (wrC zwr)) w := by kernel_rfl
theorem zeroWrP (w : World) : (zeroValue 30).run Tryd.prog w = .ok (.agg (wrC zwr)) w := by kernel_rfl
theorem zeroK32 (w : World) : (zeroValue 24).run Tryd.prog w = .ok (.agg (u8s z32).toArray) w := by kernel_rfl
theorem buildK0 (w : World) : (Instr.build 24 #[]).run Tryd.prog w = .ok (.agg (u8s z32).toArray) w := by kernel_rfl
theorem buildS0 (w : World) : (Instr.build 23 #[]).run Tryd.prog w = .ok (.agg (u8s z16).toArray) w := by kernel_rfl
theorem buildWR0 (w : World) : (Instr.build 34 #[]).run Tryd.prog w = .ok (.agg (wrC zwr)) w := by kernel_rfl
theorem buildWP0 (w : World) : (Instr.build 30 #[]).run Tryd.prog w = .ok (.agg (wrC zwr)) w := by kernel_rfl
theorem buildWR3' (r : Int) (s0 s1 s2 s3 s4 s5 s6 s7 s8 s9 s10 s11 s12 s13 s14 s15 k0 k1 k2 k3 k4 k5 k6 k7 k8 k9 k10 k11 k12 k13 k14 k15 k16 k17 k18 k19 k20 k21 k22 k23 k24 k25 k26 k27 k28 k29 k30 k31 : BitVec 8) (w : World) : (Instr.build 34 #[(0, .agg (u8s [s0, s1, s2, s3, s4, s5, s6, s7, s8, s9, s10, s11, s12, s13, s14, s15]).toArray), (1, .int .i64 r), (2, .agg (u8s [k0, k1, k2, k3, k4, k5, k6, k7, k8, k9, k10, k11, k12, k13, k14, k15, k16, k17, k18, k19, k20, k21, k22, k23, k24, k25, k26, k27, k28, k29, k30, k31]).toArray)]).run Tryd.prog w = .ok (.agg (wrC ⟨[s0, s1, s2, s3, s4, s5, s6, s7, s8, s9, s10, s11, s12, s13, s14, s15], r, [k0, k1, k2, k3, k4, k5, k6, k7, k8, k9, k10, k11, k12, k13, k14, k15, k16, k17, k18, k19, k20, k21, k22, k23, k24, k25, k26, k27, k28, k29, k30, k31], z32⟩)) w := run_build w _ _ _ (by kernel_rfl)
theorem buildWR3 (s : List (BitVec 8)) (r : Int) (k : List (BitVec 8)) (hs : s.length = 16) (hk : k.length = 32) (w : World) : (Instr.build 34 #[(0, .agg (u8s s).toArray), (1, .int .i64 r), (2, .agg (u8s k).toArray)]).run Tryd.prog w = .ok (.agg (wrC ⟨s, r, k, z32⟩)) w := by
  match s, hs, k, hk with
  | [s0, s1, s2, s3, s4, s5, s6, s7, s8, s9, s10, s11, s12, s13, s14, s15], _, [k0, k1, k2, k3, k4, k5, k6, k7, k8, k9, k10, k11, k12, k13, k14, k15, k16, k17, k18, k19, k20, k21, k22, k23, k24, k25, k26, k27, k28, k29, k30, k31], _ => exact buildWR3' ..
theorem buildWP3' (r : Int) (s0 s1 s2 s3 s4 s5 s6 s7 s8 s9 s10 s11 s12 s13 s14 s15 k0 k1 k2 k3 k4 k5 k6 k7 k8 k9 k10 k11 k12 k13 k14 k15 k16 k17 k18 k19 k20 k21 k22 k23 k24 k25 k26 k27 k28 k29 k30 k31 : BitVec 8) (w : World) : (Instr.build 30 #[(0, .agg (u8s [s0, s1, s2, s3, s4, s5, s6, s7, s8, s9, s10, s11, s12, s13, s14, s15]).toArray), (1, .int .i64 r), (2, .agg (u8s [k0, k1, k2, k3, k4, k5, k6, k7, k8, k9, k10, k11, k12, k13, k14, k15, k16, k17, k18, k19, k20, k21, k22, k23, k24, k25, k26, k27, k28, k29, k30, k31]).toArray)]).run Tryd.prog w = .ok (.agg (wrC ⟨[s0, s1, s2, s3, s4, s5, s6, s7, s8, s9, s10, s11, s12, s13, s14, s15], r, [k0, k1, k2, k3, k4, k5, k6, k7, k8, k9, k10, k11, k12, k13, k14, k15, k16, k17, k18, k19, k20, k21, k22, k23, k24, k25, k26, k27, k28, k29, k30, k31], z32⟩)) w := run_build w _ _ _ (by kernel_rfl)
theorem buildWP3 (s : List (BitVec 8)) (r : Int) (k : List (BitVec 8)) (hs : s.length = 16) (hk : k.length = 32) (w : World) : (Instr.build 30 #[(0, .agg (u8s s).toArray), (1, .int .i64 r), (2, .agg (u8s k).toArray)]).run Tryd.prog w = .ok (.agg (wrC ⟨s, r, k, z32⟩)) w := by
  match s, hs, k, hk with
  | [s0, s1, s2, s3, s4, s5, s6, s7, s8, s9, s10, s11, s12, s13, s14, s15], _, [k0, k1, k2, k3, k4, k5, k6, k7, k8, k9, k10, k11, k12, k13, k14, k15, k16, k17, k18, k19, k20, k21, k22, k23, k24, k25, k26, k27, k28, k29, k30, k31], _ => exact buildWP3' ..
theorem infoWrR : (Tryd.prog.info? 34).map (·.size) = some 81 := by kernel_rfl
theorem infoWrP : (Tryd.prog.info? 30).map (·.size) = some 81 := by kernel_rfl
theorem infoS16 : (Tryd.prog.info? 23).map (·.size) = some 16 := by kernel_rfl
theorem eq16 (d : Nat) (l m : List (BitVec 8)) (hl : l.length = 16) (hm : m.length = 16) (w : World) : (Op.equalIn (d + 2) 23 (.agg (u8s l).toArray) (.agg (u8s m).toArray)).run Tryd.prog w = .ok (l == m) w := by
  have e1 : ∀ k : List (BitVec 8), u8s k = (k.map fun x => (x.toNat : Int)).map (Value.int .u8) := fun k => by simp [u8s]
  have h := run_equalIn_ints (P := Tryd.prog) w d 23 5 .u8 16 Tryd.underlying23 Tryd.underlying5 sizeB1 (l.map fun x => (x.toNat : Int)) (m.map fun x => (x.toNat : Int)) (by simpa using hl) (by simpa using hm)
  rw [e1, e1, h]
  congr 1
  rw [Bool.eq_iff_iff, beq_iff_eq, beq_iff_eq]
  exact (List.map_inj_right (fun a b h => by apply BitVec.eq_of_toNat_eq; omega)).trans Iff.rfl
theorem eqlS (l m : List (BitVec 8)) (hl : l.length = 16) (hm : m.length = 16) (x y : Operand) (w : World) : (do eqGuard .eql 23 x y (.agg (u8s l).toArray) (.agg (u8s m).toArray); binOp .eql 23 (.agg (u8s l).toArray) (.agg (u8s m).toArray) : Sem Value).run Tryd.prog w = .ok (.bool (l == m)) w := by
  rw [Sem.run_bind, run_eqGuard_agg w .eql 23 x y _ _ (by kernel_rfl), Result.andThen_ok, run_eql_struct, eq16 9998 l m hl hm w]; rfl
theorem parts_wr {a b : WrV} (ha : a.Wf) (hb : b.Wf) (d : Nat) (w : World) : (eqParts (d + 2) (wrC a) (wrC b) [(true, 23, 0), (true, 3, 16), (true, 24, 17), (true, 24, 49)]).run Tryd.prog w = .ok (sameWr a b) w := by
  have e : sameWr a b = ((a.salt == b.salt) && ((a.r == b.r) && ((a.key == b.key) && ((a.ck == b.ck) && true)))) := by simp [sameWr]
  rw [e]
  refine eqParts_cons (run_part_arr w _ _ 16 16 Tryd.underlying23 infoS16 _ 0 _ (wr_salt ha)) (run_part_arr w _ _ 16 16 Tryd.underlying23 infoS16 _ 0 _ (wr_salt hb)) (eq16 d _ _ ha.salt hb.salt w) ?_
  refine eqParts_cons (run_part_int w 3 .i64 Tryd.underlying3 (wrC a) 16 _ (wr_r ha)) (run_part_int w 3 .i64 Tryd.underlying3 (wrC b) 16 _ (wr_r hb)) (run_equalIn_int w (d + 1) 3 .i64 .i64 _ _ Tryd.underlying3) ?_
  refine eqParts_cons (run_part_arr w _ _ 32 32 Tryd.underlying24 infoDg _ 17 _ (wr_key ha)) (run_part_arr w _ _ 32 32 Tryd.underlying24 infoDg _ 17 _ (wr_key hb)) (eq32 d _ _ ha.key hb.key w) ?_
  exact eqParts_cons (run_part_arr w _ _ 32 32 Tryd.underlying24 infoDg _ 49 _ (wr_ck ha)) (run_part_arr w _ _ 32 32 Tryd.underlying24 infoDg _ 49 _ (wr_ck hb)) (eq32 d _ _ ha.ck hb.ck w) rfl
theorem eqlWr (t : TypeId) (hf : (Tryd.prog.fieldsOf t).toList.map (fun f => (decide (f.name ≠ "_"), f.type, f.offset)) = [(true, 23, 0), (true, 3, 16), (true, 24, 17), (true, 24, 49)])
    (hu : Tryd.prog.underlying t = some (.struct (Tryd.prog.fieldsOf t))) (hp : Tryd.prog.stoodInHeld t = false) (hg : Tryd.prog.eqGuardType Tryd.prog.depth t = false) {a b : WrV} (ha : a.Wf) (hb : b.Wf) (x y : Operand) (w : World) :
    (do eqGuard .eql t x y (.agg (wrC a)) (.agg (wrC b)); binOp .eql t (.agg (wrC a)) (.agg (wrC b)) : Sem Value).run Tryd.prog w = .ok (.bool (sameWr a b)) w := by
  have h := run_equalIn_agg w 9999 t (wrC a) (wrC b) hu hp
  rw [eqFields_parts, hf, parts_wr ha hb 9997 w] at h
  rw [Sem.run_bind, run_eqGuard_agg w .eql t x y _ _ hg, Result.andThen_ok, run_eql_struct, h]; rfl
theorem eqlWR {a b : WrV} (ha : a.Wf) (hb : b.Wf) (x y : Operand) (w : World) : (do eqGuard .eql 34 x y (.agg (wrC a)) (.agg (wrC b)); binOp .eql 34 (.agg (wrC a)) (.agg (wrC b)) : Sem Value).run Tryd.prog w = .ok (.bool (sameWr a b)) w :=
  eqlWr _ (by kernel_rfl) (by kernel_rfl) (by kernel_rfl) (by kernel_rfl) ha hb x y w
theorem eqlWP {a b : WrV} (ha : a.Wf) (hb : b.Wf) (x y : Operand) (w : World) : (do eqGuard .eql 30 x y (.agg (wrC a)) (.agg (wrC b)); binOp .eql 30 (.agg (wrC a)) (.agg (wrC b)) : Sem Value).run Tryd.prog w = .ok (.bool (sameWr a b)) w :=
  eqlWr _ (by kernel_rfl) (by kernel_rfl) (by kernel_rfl) (by kernel_rfl) ha hb x y w
end Sha
end Go.Proofs.YtjadjidjfkahpaaDoor
namespace Go.Proofs.YtjadjidjfkahpaaDoor
namespace Sha
open Go.RowKit Mem
set_option maxRecDepth 100000
structure KInv10 (l : List (BitVec 8)) (Z : Array Value) (w : World) (j : Nat) (wr : World) : Prop where
  r : At wr w.heap.size Z 24
  k : At wr (w.heap.size + 1) (u8s (rowZ l 32 j)).toArray 24
  b : Below w.heap.size w wr
set_option maxHeartbeats 1000000 in
theorem rkey32_any (l : List (BitVec 8)) (v : Value) (w : World) (hv : Sl w v l) (hl : l.length = 32) : Calls Tryd.prog 26 #[v] w fun e w' => e = .returned (.agg (u8s l).toArray) ∧ Below w.heap.size w w' := by
  obtain ⟨a0, c0, rfl⟩ := sl_hdw hv
  obtain ⟨Z, hZ⟩ : ∃ Z, Z = (u8s z32).toArray := ⟨_, rfl⟩
  have zs : Z.size = 32 := by rw [hZ]; simp [z32, u8s_length]
  have hx : ∀ w, (zeroValue 24).run Tryd.prog w = .ok (.agg Z) w := by rw [hZ]; exact zeroK32
  obtain ⟨w4, hw4⟩ : ∃ w4, w4 = (w.alloc (.cells Z 24)).alloc (.cells Z 24) := ⟨_, rfl⟩
  have hI : KInv10 l Z w 0 w4 := by
    rw [hw4]
    refine ⟨(at_new w _ _).alloc _, ?_, ((Below.refl _ _).alloc (Nat.le_refl _) _).alloc (by simp) _⟩
    have h := at_new (w.alloc (.cells Z 24)) Z 24
    have e : (u8s (rowZ l 32 0)).toArray = Z := by rw [hZ]; simp [rowZ, z32]
    rw [e]
    simpa using h
  rw [hl] at hv ⊢
  have HI := Lib.hid hI; have HV := Lib.hid hv; have HL := Lib.hid hl; have ZS := Lib.hid zs; have HZ := Lib.hid hZ
  clear hI hv hl zs hZ
  go_enter Tryd.func26, Tryd.ntmps26
  go_wp2_with fail
  rw [← hw4]
  clear hx hw4
  go_loopw [4] (fun i wr => ∃ j : Nat, j ≤ 32 ∧ i = .int .i64 j ∧ KInv10 l Z w j wr) (fun i _ => 32 - (intOf i).toNat)
  case atStart => exact ⟨0, by omega, rfl, HI.out⟩
  case round =>
    clear HI
    obtain ⟨j, hj, rfl, hI⟩ := hrel
    by_cases hlt : j < 32
    · have hset : (u8s (rowZ l 32 j)).toArray.setIfInBounds j (.int .u8 ((l.getD j 0).toNat : Int)) = (u8s (rowZ l 32 (j + 1))).toArray := by
        rw [← rowZ_set l 32 j HL.out (by omega)]; exact u8s_set _ _ _
      have hEs : j < (u8s (rowZ l 32 j)).toArray.size := by simp [u8s, rowZ_length l 32 j HL.out (by omega)]; omega
      obtain ⟨a0', c0', e0, _, hr⟩ := HV.out.below hI.b
      obtain ⟨bb, oo, ea, _, hcell⟩ := hr (by intro e; have := HL.out; rw [e] at this; cases this)
      have e1 : a0 = some ⟨bb, oo, none⟩ := by injection e0 with e1 _ _; rw [e1, ea]
      subst e1
      have hc := hcell j (by rw [HL.out]; exact hlt)
      clear e0 hr ea hcell
      have hR := hI.r; have hB := hI.b; have hk := hI.k
      obtain ⟨y, hy⟩ : ∃ y, y = l.getD j 0 := ⟨_, rfl⟩
      rw [← hy] at hset hc
      obtain ⟨E, hE⟩ : ∃ E, E = (u8s (rowZ l 32 j)).toArray := ⟨_, rfl⟩
      rw [← hE] at hk hset hEs
      have KK := Lib.hid hk; have ST := Lib.hid hset; have ES := Lib.hid hEs; have RR := Lib.hid hR; have BB := Lib.hid hB
      have hlt' : (j : Int) < 32 := by omega
      clear hk hset hEs hI hE hR hB hy
      go_wp2_with (refine Mem.wpList_store_one (by rfl) 5 _ _ (by rfl) (by rfl) (w.heap.size + 1) j (.int .u8 (y.toNat : Int)) (by rfl) (by rfl) (by rfl) infoB _ _ KK.out ES.out ?_; intro w' hat' ho' hb'; have KK' := Lib.hid hat'; have RR' := Lib.hid (at_keep RR.out ho' (by omega)); have BB' := Lib.hid (hb' _ _ BB.out (by omega)); clear hat' ho' hb')
      go_roundw
      case rel => exact ⟨j + 1, by omega, by go_num, RR'.out, by rw [← ST.out]; exact KK'.out, BB'.out⟩
      case measure => simp [intOf]; omega
    · have hj4 : j = 32 := by omega
      have hge : ¬ (j : Int) < 32 := by omega
      have hall : rowZ l 32 j = l := by rw [hj4]; exact rowZ_all l 32 HL.out
      have hR := hI.r; have hB := hI.b; have hk := hI.k
      rw [hall] at hk
      have ms : (u8s l).toArray.size = 32 := by simp [u8s_length, HL.out]
      obtain ⟨M, hM⟩ : ∃ M, M = (u8s l).toArray := ⟨_, rfl⟩
      have mo : M.all (·.oneCell') = true := by rw [hM]; exact u8s_one _
      rw [← hM] at hk ms
      have KK := Lib.hid hk; have RR := Lib.hid hR; have BB := Lib.hid hB; have MS := Lib.hid ms; have MO := Lib.hid mo; have HM := Lib.hid hM
      clear hk hR hB hI hall ms mo hM hj4
      go_wp2_with (first
        | (refine wpList_load_all (by rfl) 24 _ (by rfl) (w.heap.size + 1) (by rfl) _ Tryd.underlying24 (by rfl) M _ KK.out (by rw [MS.out]; exact infoDg) ?_)
        | (refine wpList_store_all (by rfl) 24 _ _ (by rfl) (by rfl) w.heap.size M (by rfl) (by rfl) (by rw [MS.out]; exact infoDg) Z _ RR.out (by rw [MS.out, ZS.out]) MO.out ?_))
      try simp only [Exit.inBlock, Exit.then]
      refine ret_row (by rfl) w.heap.size 24 M _ (by rfl) (RR.out.row M) Tryd.underlying24 (by rfl) (by rw [MS.out]; exact infoDg) ?_
      exact ⟨by rw [HM.out], below_row BB.out (Nat.le_refl _) M⟩
/-- The end of a function with three results, the first two rows in memory. -/
theorem ret_row_row_tmp {P : Program} {fn : Func} {R : Ending → World → Prop} {tmps : Array Value} {w : World} {q p u : Tmp} {tq ty : TypeId} (h : fn.results = #[.cell q tq, .cell p ty, .tmp u]) (g1 g2 : Nat) (t1 t2 : TypeId) (cs1 cs2 : Array Value) (d1 d2 : TypeDesc) (v : Value)
    (hq : tmps.getD q undef = .pointer (some ⟨g1, 0, none⟩)) (hp : tmps.getD p undef = .pointer (some ⟨g2, 0, none⟩)) (hv : tmps.getD u undef = v) (hg1 : At w g1 cs1 t1) (hg2 : At w g2 cs2 t2) (hu1 : P.underlying tq = some d1) (hd1 : d1.isRow = true) (hi1 : (P.info? tq).map (·.size) = some cs1.size) (hu2 : P.underlying ty = some d2) (hd2 : d2.isRow = true) (hi2 : (P.info? ty).map (·.size) = some cs2.size)
    (hR : R (.returned (.tuple #[.agg cs1, .agg cs2, v])) w) : bodyPost P fn R .ret ⟨tmps, []⟩ w := by
  refine bodyPost_ret (v := .tuple #[.agg cs1, .agg cs2, v]) ?_ rfl hR
  have hr1 := run_loadVar_row (P := P) w g1 t1 tq cs1 (0, 0) d1 hg1 hu1 (by cases d1 <;> first | rfl | exact hd1) hi1
  have hr2 := run_loadVar_row (P := P) w g2 t2 ty cs2 (0, 0) d2 hg2 hu2 (by cases d2 <;> first | rfl | exact hd2) hi2
  rw [Array.getD_eq_getD_getElem?] at hq hp hv
  simp only [results, h]
  simp [Sem.run_bind, Result.andThen, hq, hp, hv, asAddr, hr1, hr2]
/-- It returns two keys, and a number. -/
def HalfEnd (w : World) (a b : List (BitVec 8)) (n : Int) (e : Ending) (w' : World) : Prop := e = .returned (.tuple #[.agg (u8s a).toArray, .agg (u8s b).toArray, .int .i64 n]) ∧ Below w.heap.size w w'
set_option maxHeartbeats 4000000 in
theorem rhalves_any (p s : List (BitVec 8)) (ls : s.length = 16) (r : Int) (v : Value) (w : World) (hp : Sl w v p) (lp : p.length ≤ 1000000) :
    Calls Tryd.prog 12 #[v, .agg (u8s s).toArray, .int .i64 r] w (HalfEnd w (halvesR p s r).1 (halvesR p s r).2.1 (halvesR p s r).2.2) := by
  obtain ⟨Z, hZ⟩ : ∃ Z, Z = (u8s z32).toArray := ⟨_, rfl⟩
  have zs : Z.size = 32 := by rw [hZ]; simp [z32, u8s_length]
  have zo : Z.all (·.oneCell') = true := by rw [hZ]; exact u8s_one _
  have hx : ∀ w, (zeroValue 24).run Tryd.prog w = .ok (.agg Z) w := by rw [hZ]; exact zeroK32
  have bn : ∀ w, (Instr.build 24 #[]).run Tryd.prog w = .ok (.agg Z) w := by rw [hZ]; exact buildK0
  have hsl := at_sl ((at_new w (u8s s).toArray 23).alloc (.cells Z 24) |>.alloc (.cells Z 24)) ls
  obtain ⟨C, hC⟩ : ∃ C, C = (u8s s).toArray := ⟨_, rfl⟩
  rw [← hC] at hsl ⊢
  obtain ⟨w1, hw1⟩ : ∃ w1, w1 = ((w.alloc (.cells C 23)).alloc (.cells Z 24)).alloc (.cells Z 24) := ⟨_, rfl⟩
  have aa : At w1 (w.heap.size + 1) Z 24 := by
    rw [hw1]
    have h := (at_new (w.alloc (.cells C 23)) Z 24).alloc (.cells Z 24)
    simpa using h
  have ab : At w1 (w.heap.size + 2) Z 24 := by
    rw [hw1]
    have h := at_new ((w.alloc (.cells C 23)).alloc (.cells Z 24)) Z 24
    simpa using h
  have b1 : Below w.heap.size w w1 := by rw [hw1]; exact (((Below.refl _ _).alloc (Nat.le_refl _) _).alloc (by simp) _).alloc (by simp; omega) _
  rw [← hw1] at hsl
  have hp1 := hp.below b1
  by_cases hb : r < 1 ∨ 100 < r
  · have e0 : halvesR p s r = (z32, z32, 1) := by unfold halvesR; rw [if_pos ((rBad_iff r).2 hb)]
    rw [e0]
    have ZS := Lib.hid zs; have ZO := Lib.hid zo; have BN := Lib.hid bn; have A1 := Lib.hid aa; have A2 := Lib.hid ab; have B1 := Lib.hid b1; have HZ := Lib.hid hZ
    clear zs zo bn aa ab b1 hZ hsl hp1 hp e0 ls lp hC
    rcases hb with g1 | g1
    · go_enter Tryd.func12, Tryd.ntmps12
      go_upto_region 1 with fail
      rw [← hw1]
      clear hx hw1
      go_wp2_with (first
        | (refine Mem.wpList_build (by rfl) 24 _ #[] (.agg Z) (by rfl) (by simp) BN.out ?_)
        | (refine wpList_store_all (by rfl) 24 _ _ (by rfl) (by rfl) (w.heap.size + 1) Z (by rfl) (by rfl) (by rw [ZS.out]; exact infoDg) Z 24 A1.out (by rfl) ZO.out ?_)
        | (refine wpList_store_all (by rfl) 24 _ _ (by rfl) (by rfl) (w.heap.size + 2) Z (by rfl) (by rfl) (by rw [ZS.out]; exact infoDg) Z 24 (A2.out.row_other Z (by omega)) (by rfl) ZO.out ?_))
      try simp only [Exit.inBlock, Exit.then]
      refine ret_row_row_tmp (by rfl) (w.heap.size + 1) (w.heap.size + 2) 24 24 Z Z _ _ (.int .i64 1) (by rfl) (by rfl) (by rfl) ((A1.out.row Z).row_other Z (by omega)) ((A2.out.row_other Z (by omega)).row Z) Tryd.underlying24 (by rfl) (by rw [ZS.out]; exact infoDg) Tryd.underlying24 (by rfl) (by rw [ZS.out]; exact infoDg) ?_
      exact ⟨by rw [HZ.out], below_row (below_row B1.out (Nat.le_succ _) Z) (Nat.le_add_right _ _) Z⟩
    · have g0 : ¬ r < 1 := by omega
      go_enter Tryd.func12, Tryd.ntmps12
      go_upto_region 1 with fail
      rw [← hw1]
      clear hx hw1
      go_wp2_with (first
        | (refine Mem.wpList_build (by rfl) 24 _ #[] (.agg Z) (by rfl) (by simp) BN.out ?_)
        | (refine wpList_store_all (by rfl) 24 _ _ (by rfl) (by rfl) (w.heap.size + 1) Z (by rfl) (by rfl) (by rw [ZS.out]; exact infoDg) Z 24 A1.out (by rfl) ZO.out ?_)
        | (refine wpList_store_all (by rfl) 24 _ _ (by rfl) (by rfl) (w.heap.size + 2) Z (by rfl) (by rfl) (by rw [ZS.out]; exact infoDg) Z 24 (A2.out.row_other Z (by omega)) (by rfl) ZO.out ?_))
      try simp only [Exit.inBlock, Exit.then]
      refine ret_row_row_tmp (by rfl) (w.heap.size + 1) (w.heap.size + 2) 24 24 Z Z _ _ (.int .i64 1) (by rfl) (by rfl) (by rfl) ((A1.out.row Z).row_other Z (by omega)) ((A2.out.row_other Z (by omega)).row Z) Tryd.underlying24 (by rfl) (by rw [ZS.out]; exact infoDg) Tryd.underlying24 (by rfl) (by rw [ZS.out]; exact infoDg) ?_
      exact ⟨by rw [HZ.out], below_row (below_row B1.out (Nat.le_succ _) Z) (Nat.le_add_right _ _) Z⟩
  · have g1 : ¬ r < 1 := by omega
    have g2 : ¬ 100 < r := by omega
    obtain ⟨k, rfl⟩ : ∃ k : Nat, r = (k : Int) := ⟨r.toNat, by omega⟩
    have e0 : halvesR p s (k : Int) = (half1 p s (k : Int), half2 p s (k : Int), 0) := by unfold halvesR; rw [if_neg (fun h => hb ((rBad_iff _).1 h))]
    rw [e0]
    have hk := fun wx (h1 : Sl wx v p) (h2 : Sl wx (.slice (some ⟨w.heap.size, 0, none⟩) 16 16) s) => rskey_good p s k 64 v _ wx (by omega) (by omega) (by decide) (by omega) (by omega) h1 h2
    obtain ⟨S64, hS⟩ : ∃ S, S = stretched p s k 64 := ⟨_, rfl⟩
    have l64 : S64.length = 64 := by rw [hS]; exact stretched_length _ _ _ _
    have h1e : half1 p s (k : Int) = S64.take 32 := by rw [hS]; rfl
    have h2e : half2 p s (k : Int) = S64.drop 32 := by rw [hS]; rfl
    rw [← hS] at hk
    rw [h1e, h2e]
    have l1 : (S64.take 32).length = 32 := by rw [List.length_take, l64]; rfl
    have l2 : (S64.drop 32).length = 32 := by rw [List.length_drop, l64]
    obtain ⟨H1, hH1⟩ : ∃ H, H = S64.take 32 := ⟨_, rfl⟩
    obtain ⟨H2, hH2⟩ : ∃ H, H = S64.drop 32 := ⟨_, rfl⟩
    rw [← hH1, ← hH2]
    rw [← hH1] at l1
    rw [← hH2] at l2
    have k1 := fun (vx : Value) wx (h : Sl wx vx H1) => rkey32_any H1 vx wx h l1
    have k2 := fun (vx : Value) wx (h : Sl wx vx H2) => rkey32_any H2 vx wx h l2
    have s1 : (u8s H1).toArray.size = 32 := by simp [u8s_length, l1]
    have s2 : (u8s H2).toArray.size = 32 := by simp [u8s_length, l2]
    have o1 : (u8s H1).toArray.all (·.oneCell') = true := u8s_one _
    have o2 : (u8s H2).toArray.all (·.oneCell') = true := u8s_one _
    obtain ⟨M1, hM1⟩ : ∃ M, M = (u8s H1).toArray := ⟨_, rfl⟩
    obtain ⟨M2, hM2⟩ : ∃ M, M = (u8s H2).toArray := ⟨_, rfl⟩
    rw [← hM1] at k1 s1 o1
    rw [← hM2] at k2 s2 o2
    obtain ⟨a0, c0, rfl⟩ := sl_hdw hp
    obtain ⟨m, hm⟩ : ∃ m, m = p.length := ⟨_, rfl⟩
    rw [← hm] at hp1 hk ⊢
    have ZS := Lib.hid zs; have A1 := Lib.hid aa; have A2 := Lib.hid ab; have B1 := Lib.hid b1; have HK := Lib.hid hk; have SP := Lib.hid hp1; have SS := Lib.hid hsl; have K1 := Lib.hid k1; have K2 := Lib.hid k2; have S1 := Lib.hid s1; have S2 := Lib.hid s2; have O1 := Lib.hid o1; have O2 := Lib.hid o2; have HM1 := Lib.hid hM1; have HM2 := Lib.hid hM2; have L64 := Lib.hid l64; have HH1 := Lib.hid hH1; have HH2 := Lib.hid hH2
    clear zs zo bn aa ab b1 hZ hsl hp1 hp e0 ls lp hC hk k1 k2 s1 s2 o1 o2 hM1 hM2 l64 hH1 hH2 hS h1e h2e l1 l2 hm hb
    go_enter Tryd.func12, Tryd.ntmps12
    go_upto_region 1 with fail
    rw [← hw1]
    clear hx hw1
    go_wp2_with (refine wpList_slice_arr (by rfl) 23 _ (by rfl) 16 5 w.heap.size 0 (by rfl) Tryd.underlying23 infoB ?_)
    refine (HK.out w1 SP.out SS.out).mono ?_
    rintro e w2 ⟨v2, rfl, hs2, hb2⟩
    obtain ⟨a2, c2, rfl⟩ := sl_hdw hs2
    have hcap : S64.length ≤ c2 := by obtain ⟨_, _, e, hc, _⟩ := id hs2; injection e with _ _ e3; rw [e3]; exact hc
    have p1 : Sl w2 (.slice (pieceA a2 c2 0) 32 c2) H1 := by
      have h := sl_piece hs2 (i := 0) (j := 32) (Nat.zero_le _) (by rw [L64.out]; decide)
      rw [HH1.out]; exact h
    have p2 : Sl w2 (.slice (pieceA a2 c2 32) (64 - 32) (c2 - 32)) H2 := by
      have h := sl_piece hs2 (i := 32) (j := 64) (by decide) (by rw [L64.out]; decide)
      rw [HH2.out]
      have e : ((S64.drop 32).take (64 - 32)) = S64.drop 32 := List.take_of_length_le (Nat.le_of_eq (by rw [List.length_drop, L64.out]))
      rw [e] at h; exact h
    rw [L64.out] at hcap ⊢
    have A1' := Lib.hid (A1.out.below hb2 A1.out.lt); have A2' := Lib.hid (A2.out.below hb2 A2.out.lt); have B2 := Lib.hid (B1.out.trans (hb2.mono B1.out.size)); have P1 := Lib.hid p1; have P2 := Lib.hid p2; have HC := Lib.hid hcap
    clear hs2 hb2 p1 p2 hcap A1 A2 B1 HK SP SS
    go_wp2_with fail
    have D0 : Hid (Below w.heap.size w w2.drew) := Lib.hid B2.out.drew
    refine wp_region_plan_in (fun x => Below w.heap.size w x) (.take 0 (.take 1 (.take 3 (.take 4 (.sole 2 (.sole 5 (.sole 6 (.sole 7 (.take 8 .done))))))))) (by kernel_rfl) (by kernel_rfl) (by kernel_rfl) D0.out ?_
    (first | (refine plan_move _ _ (by rfl) (by rfl) (.inl (by rfl)) (by first | (with_reducible exact Mem.ev_const _ _) | (with_reducible exact Mem.ev_zero _ _ _) | (with_reducible (apply Eq.trans (Mem.ev_tmp _ _ _)); simp only [List.getD_cons_succ, List.getD_cons_zero] <;> rfl)) ?_) | (refine plan_move _ _ (by rfl) (by rfl) (.inr (by rfl)) (by first | (with_reducible exact Mem.ev_const _ _) | (with_reducible exact Mem.ev_zero _ _ _) | (with_reducible (apply Eq.trans (Mem.ev_tmp _ _ _)); simp only [List.getD_cons_succ, List.getD_cons_zero] <;> rfl)) ?_) | (refine plan_pick_t _ _ _ _ (by rfl) (by rfl) (by rfl) (by first | (with_reducible exact Mem.ev_const _ _) | (with_reducible exact Mem.ev_zero _ _ _) | (with_reducible (apply Eq.trans (Mem.ev_tmp _ _ _)); simp only [List.getD_cons_succ, List.getD_cons_zero] <;> rfl)) (by first | (with_reducible exact Mem.ev_const _ _) | (with_reducible exact Mem.ev_zero _ _ _) | (with_reducible (apply Eq.trans (Mem.ev_tmp _ _ _)); simp only [List.getD_cons_succ, List.getD_cons_zero] <;> rfl)) ?_) | (refine plan_pick_f _ _ _ _ (by rfl) (by rfl) (by rfl) (by first | (with_reducible exact Mem.ev_const _ _) | (with_reducible exact Mem.ev_zero _ _ _) | (with_reducible (apply Eq.trans (Mem.ev_tmp _ _ _)); simp only [List.getD_cons_succ, List.getD_cons_zero] <;> rfl)) (by first | (with_reducible exact Mem.ev_const _ _) | (with_reducible exact Mem.ev_zero _ _ _) | (with_reducible (apply Eq.trans (Mem.ev_tmp _ _ _)); simp only [List.getD_cons_succ, List.getD_cons_zero] <;> rfl)) ?_))
    (simp only [Act.put, List.setIfInBounds_toArray, List.set_cons_zero, List.set_cons_succ])
    refine plan_piece_to 22 _ _ (by rfl) (by rfl) (by rfl) Tryd.underlying22 a2 64 c2 32 (by first | (with_reducible exact Mem.ev_const _ _) | (with_reducible exact Mem.ev_zero _ _ _) | (with_reducible (apply Eq.trans (Mem.ev_tmp _ _ _)); simp only [List.getD_cons_succ, List.getD_cons_zero] <;> rfl)) (by rfl) (by decide) HC.out ?_
    (simp only [Act.put, List.setIfInBounds_toArray, List.set_cons_zero, List.set_cons_succ])
    (first | (refine plan_move _ _ (by rfl) (by rfl) (.inl (by rfl)) (by first | (with_reducible exact Mem.ev_const _ _) | (with_reducible exact Mem.ev_zero _ _ _) | (with_reducible (apply Eq.trans (Mem.ev_tmp _ _ _)); simp only [List.getD_cons_succ, List.getD_cons_zero] <;> rfl)) ?_) | (refine plan_move _ _ (by rfl) (by rfl) (.inr (by rfl)) (by first | (with_reducible exact Mem.ev_const _ _) | (with_reducible exact Mem.ev_zero _ _ _) | (with_reducible (apply Eq.trans (Mem.ev_tmp _ _ _)); simp only [List.getD_cons_succ, List.getD_cons_zero] <;> rfl)) ?_) | (refine plan_pick_t _ _ _ _ (by rfl) (by rfl) (by rfl) (by first | (with_reducible exact Mem.ev_const _ _) | (with_reducible exact Mem.ev_zero _ _ _) | (with_reducible (apply Eq.trans (Mem.ev_tmp _ _ _)); simp only [List.getD_cons_succ, List.getD_cons_zero] <;> rfl)) (by first | (with_reducible exact Mem.ev_const _ _) | (with_reducible exact Mem.ev_zero _ _ _) | (with_reducible (apply Eq.trans (Mem.ev_tmp _ _ _)); simp only [List.getD_cons_succ, List.getD_cons_zero] <;> rfl)) ?_) | (refine plan_pick_f _ _ _ _ (by rfl) (by rfl) (by rfl) (by first | (with_reducible exact Mem.ev_const _ _) | (with_reducible exact Mem.ev_zero _ _ _) | (with_reducible (apply Eq.trans (Mem.ev_tmp _ _ _)); simp only [List.getD_cons_succ, List.getD_cons_zero] <;> rfl)) (by first | (with_reducible exact Mem.ev_const _ _) | (with_reducible exact Mem.ev_zero _ _ _) | (with_reducible (apply Eq.trans (Mem.ev_tmp _ _ _)); simp only [List.getD_cons_succ, List.getD_cons_zero] <;> rfl)) ?_))
    (simp only [Act.put, List.setIfInBounds_toArray, List.set_cons_zero, List.set_cons_succ])
    refine plan_piece_from 22 _ _ (by rfl) (by rfl) (by rfl) Tryd.underlying22 a2 64 c2 32 (by first | (with_reducible exact Mem.ev_const _ _) | (with_reducible exact Mem.ev_zero _ _ _) | (with_reducible (apply Eq.trans (Mem.ev_tmp _ _ _)); simp only [List.getD_cons_succ, List.getD_cons_zero] <;> rfl)) (by rfl) (by decide) HC.out ?_
    (simp only [Act.put, List.setIfInBounds_toArray, List.set_cons_zero, List.set_cons_succ])
    refine plan_call 26 _ _ _ (by kernel_rfl) (by rfl) (by rfl) (by rfl) (by first | exact Mem.ev_none _ | (simp only [List.map_toArray, List.map_cons, List.map_nil, Mem.ev_tmp, List.getD_cons_succ, List.getD_cons_zero] <;> rfl)) ?_
    refine (K1.out _ _ (P1.out.below (Below.refl _ _).drew)).mono ?_
    rintro o3 w3 ⟨rfl, hb3⟩
    have D1 : Hid (Below w.heap.size w w3) := Lib.hid (D0.out.trans (hb3.mono D0.out.size)); have P3 := Lib.hid ((P2.out.below (Below.refl _ _).drew).below hb3); have A3 := Lib.hid ((A1'.out.drew).below hb3 A1'.out.lt); have A4 := Lib.hid ((A2'.out.drew).below hb3 A2'.out.lt)
    clear hb3 P1 P2 A1' A2' B2
    refine ⟨_, rfl, D1.out, ?_⟩
    (simp only [Act.put, List.setIfInBounds_toArray, List.set_cons_zero, List.set_cons_succ])
    refine plan_call 26 _ _ _ (by kernel_rfl) (by rfl) (by rfl) (by rfl) (by first | exact Mem.ev_none _ | (simp only [List.map_toArray, List.map_cons, List.map_nil, Mem.ev_tmp, List.getD_cons_succ, List.getD_cons_zero] <;> rfl)) ?_
    refine (K2.out _ _ P3.out).mono ?_
    rintro o4 w4 ⟨rfl, hb4⟩
    have D2 : Hid (Below w.heap.size w w4) := Lib.hid (D1.out.trans (hb4.mono D1.out.size)); have A5 := Lib.hid (A3.out.below hb4 A3.out.lt); have A6 := Lib.hid (A4.out.below hb4 A4.out.lt)
    clear hb4 P3 A3 A4
    refine ⟨_, rfl, D2.out, ?_⟩
    (simp only [Act.put, List.setIfInBounds_toArray, List.set_cons_zero, List.set_cons_succ])
    have D3 : Hid (Below w.heap.size w (w4.setRow (w.heap.size + 1) M1)) := Lib.hid (below_row D2.out (Nat.le_succ _) M1)
    refine plan_store 24 _ _ (w.heap.size + 1) M1 Z 24 (by rfl) (by rfl) (by rfl) (by rfl) (by first | (with_reducible exact Mem.ev_const _ _) | (with_reducible exact Mem.ev_zero _ _ _) | (with_reducible (apply Eq.trans (Mem.ev_tmp _ _ _)); simp only [List.getD_cons_succ, List.getD_cons_zero] <;> rfl)) (by first | (with_reducible exact Mem.ev_const _ _) | (with_reducible exact Mem.ev_zero _ _ _) | (with_reducible (apply Eq.trans (Mem.ev_tmp _ _ _)); simp only [List.getD_cons_succ, List.getD_cons_zero] <;> rfl)) (by rw [S1.out]; exact infoDg) A5.out (by rw [S1.out, ZS.out]) O1.out D3.out ?_
    have A7 := Lib.hid (A5.out.row M1); have A8 : Hid (At (w4.setRow (w.heap.size + 1) M1) (w.heap.size + 2) Z 24) := Lib.hid (A6.out.row_other M1 (by omega))
    have D4 : Hid (Below w.heap.size w ((w4.setRow (w.heap.size + 1) M1).setRow (w.heap.size + 2) M2)) := Lib.hid (below_row D3.out (Nat.le_add_right _ _) M2)
    refine plan_store 24 _ _ (w.heap.size + 2) M2 Z 24 (by rfl) (by rfl) (by rfl) (by rfl) (by first | (with_reducible exact Mem.ev_const _ _) | (with_reducible exact Mem.ev_zero _ _ _) | (with_reducible (apply Eq.trans (Mem.ev_tmp _ _ _)); simp only [List.getD_cons_succ, List.getD_cons_zero] <;> rfl)) (by first | (with_reducible exact Mem.ev_const _ _) | (with_reducible exact Mem.ev_zero _ _ _) | (with_reducible (apply Eq.trans (Mem.ev_tmp _ _ _)); simp only [List.getD_cons_succ, List.getD_cons_zero] <;> rfl)) (by rw [S2.out]; exact infoDg) A8.out (by rw [S2.out, ZS.out]) O2.out D4.out ?_
    (first | (refine plan_move _ _ (by rfl) (by rfl) (.inl (by rfl)) (by first | (with_reducible exact Mem.ev_const _ _) | (with_reducible exact Mem.ev_zero _ _ _) | (with_reducible (apply Eq.trans (Mem.ev_tmp _ _ _)); simp only [List.getD_cons_succ, List.getD_cons_zero] <;> rfl)) ?_) | (refine plan_move _ _ (by rfl) (by rfl) (.inr (by rfl)) (by first | (with_reducible exact Mem.ev_const _ _) | (with_reducible exact Mem.ev_zero _ _ _) | (with_reducible (apply Eq.trans (Mem.ev_tmp _ _ _)); simp only [List.getD_cons_succ, List.getD_cons_zero] <;> rfl)) ?_) | (refine plan_pick_t _ _ _ _ (by rfl) (by rfl) (by rfl) (by first | (with_reducible exact Mem.ev_const _ _) | (with_reducible exact Mem.ev_zero _ _ _) | (with_reducible (apply Eq.trans (Mem.ev_tmp _ _ _)); simp only [List.getD_cons_succ, List.getD_cons_zero] <;> rfl)) (by first | (with_reducible exact Mem.ev_const _ _) | (with_reducible exact Mem.ev_zero _ _ _) | (with_reducible (apply Eq.trans (Mem.ev_tmp _ _ _)); simp only [List.getD_cons_succ, List.getD_cons_zero] <;> rfl)) ?_) | (refine plan_pick_f _ _ _ _ (by rfl) (by rfl) (by rfl) (by first | (with_reducible exact Mem.ev_const _ _) | (with_reducible exact Mem.ev_zero _ _ _) | (with_reducible (apply Eq.trans (Mem.ev_tmp _ _ _)); simp only [List.getD_cons_succ, List.getD_cons_zero] <;> rfl)) (by first | (with_reducible exact Mem.ev_const _ _) | (with_reducible exact Mem.ev_zero _ _ _) | (with_reducible (apply Eq.trans (Mem.ev_tmp _ _ _)); simp only [List.getD_cons_succ, List.getD_cons_zero] <;> rfl)) ?_))
    (simp only [Act.put, List.setIfInBounds_toArray, List.set_cons_zero, List.set_cons_succ])
    refine plan_nil ?_
    go_wp2_with fail
    try simp only [Exit.inBlock, Exit.then]
    refine ret_row_row_tmp (by rfl) (w.heap.size + 1) (w.heap.size + 2) 24 24 M1 M2 _ _ (.int .i64 0) (by rfl) (by rfl) (by rfl) (A7.out.row_other M2 (by omega)) (A8.out.row M2) Tryd.underlying24 (by rfl) (by rw [S1.out]; exact infoDg) Tryd.underlying24 (by rfl) (by rw [S2.out]; exact infoDg) ?_
    exact ⟨by rw [HM1.out, HM2.out], D4.out⟩
end Sha
end Go.Proofs.YtjadjidjfkahpaaDoor
namespace Go.Proofs.YtjadjidjfkahpaaDoor
namespace Sha
open Go.RowKit Mem
set_option maxRecDepth 100000
set_option maxHeartbeats 4000000 in
theorem rturnK_any (k x : List (BitVec 8)) (lk : k.length = 32) (lx : x.length = 32) (w : World) :
    Calls Tryd.prog 21 #[.agg (u8s k).toArray, .agg (u8s x).toArray] w fun e w' => e = .returned (.agg (u8s (turnK k x)).toArray) ∧ Below w.heap.size w w' := by
  obtain ⟨Z, hZ⟩ : ∃ Z, Z = (u8s z32).toArray := ⟨_, rfl⟩
  have zs : Z.size = 32 := by rw [hZ]; simp [z32, u8s_length]
  have hx : ∀ w, (zeroValue 24).run Tryd.prog w = .ok (.agg Z) w := by rw [hZ]; exact zeroK32
  have a0 := ((at_new w (u8s k).toArray 24).alloc (.cells (u8s x).toArray 24)).alloc (.cells Z 24)
  have a1 : At (((w.alloc (.cells (u8s k).toArray 24)).alloc (.cells (u8s x).toArray 24)).alloc (.cells Z 24)) (w.heap.size + 1) (u8s x).toArray 24 := by
    have h := (at_new (w.alloc (.cells (u8s k).toArray 24)) (u8s x).toArray 24).alloc (.cells Z 24)
    simpa using h
  have a2 : At (((w.alloc (.cells (u8s k).toArray 24)).alloc (.cells (u8s x).toArray 24)).alloc (.cells Z 24)) (w.heap.size + 2) Z 24 := by
    have h := at_new ((w.alloc (.cells (u8s k).toArray 24)).alloc (.cells (u8s x).toArray 24)) Z 24
    simpa using h
  have sx := at_sl a1 lx
  have b1 : Below w.heap.size w (((w.alloc (.cells (u8s k).toArray 24)).alloc (.cells (u8s x).toArray 24)).alloc (.cells Z 24)) := (((Below.refl _ _).alloc (Nat.le_refl _) _).alloc (by simp) _).alloc (by simp; omega) _
  have non : ∀ wx, Calls Tryd.prog 34 #[.int .u32 0, .int .u64 0] wx fun o w' => o = .returned (.agg (ncOf 0 0)) ∧ Below wx.heap.size wx w' := fun wx => rnonce_any 0 0 wx
  have rt : ∀ vx wx, Sl wx vx x → Calls Tryd.prog 33 #[.agg (u8s k).toArray, .agg (ncOf 0 0), .int .u32 0, vx] wx (RSEnd wx (turnK k x)) := fun vx wx h => rturned_any k (cnonce 0 0) 0 x vx lk (cnonce_length _ _) (by omega) wx h
  have lt := turnK_length k x
  rw [lx] at lt
  have rk := fun (vx : Value) wx (h : Sl wx vx (turnK k x)) => rkey32_any (turnK k x) vx wx h lt
  obtain ⟨T, hT⟩ : ∃ T, T = turnK k x := ⟨_, rfl⟩
  rw [← hT] at rt rk lt ⊢
  obtain ⟨M, hM⟩ : ∃ M, M = (u8s T).toArray := ⟨_, rfl⟩
  have ms : M.size = 32 := by rw [hM]; simp [u8s_length, lt]
  have mo : M.all (·.oneCell') = true := by rw [hM]; exact u8s_one _
  rw [← hM] at rk ⊢
  obtain ⟨CK, hCK⟩ : ∃ C, C = (u8s k).toArray := ⟨_, rfl⟩
  have cs : CK.size = 32 := by rw [hCK]; simp [u8s_length, lk]
  rw [← hCK] at a0 a1 a2 sx b1 rt ⊢
  obtain ⟨CX, hCX⟩ : ∃ C, C = (u8s x).toArray := ⟨_, rfl⟩
  rw [← hCX] at a0 a1 a2 sx b1 ⊢
  obtain ⟨w1, hw1⟩ : ∃ w1, w1 = (((w.alloc (.cells CK 24)).alloc (.cells CX 24)).alloc (.cells Z 24)) := ⟨_, rfl⟩
  rw [← hw1] at a0 a1 a2 sx b1
  obtain ⟨nc, hnc⟩ : ∃ nc, nc = ncOf 0 0 := ⟨_, rfl⟩
  rw [← hnc] at non rt
  have ZS := Lib.hid zs; have A0 := Lib.hid a0; have A2 := Lib.hid a2; have SX := Lib.hid sx; have B1 := Lib.hid b1; have NON := Lib.hid non; have RT := Lib.hid rt; have RK := Lib.hid rk; have MS := Lib.hid ms; have MO := Lib.hid mo; have CS := Lib.hid cs
  clear zs a0 a1 a2 sx b1 non rt rk ms mo cs hZ hM hCK hCX hT lt lk lx hnc
  go_enter Tryd.func21, Tryd.ntmps21
  go_upto_region 1 with fail
  rw [← hw1]
  clear hx hw1
  have D0 : Hid (Below w1.heap.size w1 w1.drew) := Lib.hid (Below.refl _ _).drew
  have HZ1 : Hid (w.heap.size + 2 < w1.heap.size) := Lib.hid A2.out.lt
  refine wp_region_plan_in (fun y => At y w.heap.size CK 24) (.take 0 (.take 2 (.sole 1 (.sole 3 (.sole 4 (.sole 5 .done)))))) (by kernel_rfl) (by kernel_rfl) (by kernel_rfl) A0.out.drew ?_
  refine plan_row 24 _ w.heap.size _ CK 24 (by rfl) (by rfl) (by rfl) (by first | (with_reducible exact Mem.ev_const _ _) | (with_reducible exact Mem.ev_zero _ _ _) | (with_reducible (apply Eq.trans (Mem.ev_tmp _ _ _)); simp only [List.getD_cons_succ, List.getD_cons_zero] <;> rfl)) (fun w' hw' => hw') Tryd.underlying24 (by rfl) (by rw [CS.out]; exact infoDg) ?_
  (simp only [Act.put, List.setIfInBounds_toArray, List.set_cons_zero, List.set_cons_succ])
  refine plan_cut 24 _ 32 5 (w.heap.size + 1) 0 (by rfl) (by rfl) (by rfl) (by first | (with_reducible exact Mem.ev_const _ _) | (with_reducible exact Mem.ev_zero _ _ _) | (with_reducible (apply Eq.trans (Mem.ev_tmp _ _ _)); simp only [List.getD_cons_succ, List.getD_cons_zero] <;> rfl)) Tryd.underlying24 infoB ?_
  (simp only [Act.put, List.setIfInBounds_toArray, List.set_cons_zero, List.set_cons_succ])
  refine plan_call 34 _ _ #[.int .u32 0, .int .u64 0] (by kernel_rfl) (by rfl) (by rfl) (by rfl) (by simp only [List.map_toArray, List.map_cons, List.map_nil] <;> rfl) ?_
  refine (NON.out _).mono ?_
  rintro o2 w2 ⟨rfl, hb⟩
  have D1 : Hid (Below w1.heap.size w1 w2) := Lib.hid (D0.out.trans hb)
  clear hb
  refine ⟨_, rfl, A0.out.below D1.out A0.out.lt, ?_⟩
  (simp only [Act.put, List.setIfInBounds_toArray, List.set_cons_zero, List.set_cons_succ])
  refine plan_call 33 _ _ _ (by kernel_rfl) (by rfl) (by rfl) (by rfl) (by first | exact Mem.ev_none _ | (simp only [List.map_toArray, List.map_cons, List.map_nil, Mem.ev_tmp, List.getD_cons_succ, List.getD_cons_zero] <;> rfl)) ?_
  refine (RT.out _ _ (SX.out.below D1.out)).mono ?_
  rintro o3 w3 ⟨v3, rfl, hs, hb⟩
  have D2 : Hid (Below w1.heap.size w1 w3) := Lib.hid (D1.out.trans (hb.mono D1.out.size)); have S3 := Lib.hid hs
  clear hs hb
  refine ⟨_, rfl, A0.out.below D2.out A0.out.lt, ?_⟩
  (simp only [Act.put, List.setIfInBounds_toArray, List.set_cons_zero, List.set_cons_succ])
  refine plan_call 26 _ _ _ (by kernel_rfl) (by rfl) (by rfl) (by rfl) (by first | exact Mem.ev_none _ | (simp only [List.map_toArray, List.map_cons, List.map_nil, Mem.ev_tmp, List.getD_cons_succ, List.getD_cons_zero] <;> rfl)) ?_
  refine (RK.out _ _ S3.out).mono ?_
  rintro o4 w4 ⟨rfl, hb⟩
  have D3 : Hid (Below w1.heap.size w1 w4) := Lib.hid (D2.out.trans (hb.mono D2.out.size))
  clear hb S3
  refine ⟨_, rfl, A0.out.below D3.out A0.out.lt, ?_⟩
  (simp only [Act.put, List.setIfInBounds_toArray, List.set_cons_zero, List.set_cons_succ])
  have A5 := Lib.hid (A2.out.below D3.out A2.out.lt)
  have D4 : Hid (Below w.heap.size w (w4.setRow (w.heap.size + 2) M)) := Lib.hid (below_row (B1.out.trans (D3.out.mono B1.out.size)) (Nat.le_add_right _ _) M)
  refine plan_store 24 _ _ (w.heap.size + 2) M Z 24 (by rfl) (by rfl) (by rfl) (by rfl) (by first | (with_reducible exact Mem.ev_const _ _) | (with_reducible exact Mem.ev_zero _ _ _) | (with_reducible (apply Eq.trans (Mem.ev_tmp _ _ _)); simp only [List.getD_cons_succ, List.getD_cons_zero] <;> rfl)) (by first | (with_reducible exact Mem.ev_const _ _) | (with_reducible exact Mem.ev_zero _ _ _) | (with_reducible (apply Eq.trans (Mem.ev_tmp _ _ _)); simp only [List.getD_cons_succ, List.getD_cons_zero] <;> rfl)) (by rw [MS.out]; exact infoDg) A5.out (by rw [MS.out, ZS.out]) MO.out ((A0.out.below D3.out A0.out.lt).row_other M (by omega)) ?_
  refine plan_nil ?_
  go_wp2_with fail
  try simp only [Exit.inBlock, Exit.then]
  refine ret_row (by rfl) (w.heap.size + 2) 24 M _ (by rfl) (A5.out.row M) Tryd.underlying24 (by rfl) (by rw [MS.out]; exact infoDg) ?_
  exact ⟨rfl, D4.out⟩
end Sha
end Go.Proofs.YtjadjidjfkahpaaDoor
namespace Go.Proofs.YtjadjidjfkahpaaDoor
namespace Sha
open Go.RowKit Mem
set_option maxRecDepth 100000
theorem rb4_take (r : Int) (j : Nat) (h : j < 4) : (rb4 r).take (j + 1) = (rb4 r).take j ++ [(rb4 r).getD j 0] := by
  match j, h with
  | 0, _ => rfl
  | 1, _ => rfl
  | 2, _ => rfl
  | 3, _ => rfl
theorem rb4_val (r : Int) (j : Nat) (h : j < 4) : r / 2 ^ (8 * j) % 256 = (((rb4 r).getD j 0).toNat : Int) := by
  match j, h with
  | 0, _ => show r / 1 % 256 = ((BitVec.ofInt 8 r).toNat : Int); rw [BitVec.toNat_ofInt]; omega
  | 1, _ => show r / 256 % 256 = ((BitVec.ofInt 8 (r / 256)).toNat : Int); rw [BitVec.toNat_ofInt]; omega
  | 2, _ => show r / 65536 % 256 = ((BitVec.ofInt 8 (r / 65536)).toNat : Int); rw [BitVec.toNat_ofInt]; omega
  | 3, _ => show r / 16777216 % 256 = ((BitVec.ofInt 8 (r / 16777216)).toNat : Int); rw [BitVec.toNat_ofInt]; omega
theorem sl_ws {w : World} {bx : Nat} {v : WrV} {t : TypeId} (hA : At w bx (wrC v) t) (h : v.Wf) : Sl w (.slice (some ⟨bx, 0, none⟩) 16 16) v.salt :=
  ⟨_, _, by rw [h.salt], by rw [h.salt]; exact Nat.le_refl _, fun _ => ⟨bx, 0, rfl, hA.lt, fun i hi => by
    rw [h.salt] at hi
    have e := u8s_get v.salt i (by rw [h.salt]; exact hi)
    rw [hA.cell, Nat.zero_add, ← e]
    simp only [wrC, wrL, List.getElem?_toArray]
    rw [List.getElem?_append_left (by rw [u8s_length, h.salt]; exact hi)]⟩⟩
theorem sl_wk {w : World} {bx : Nat} {v : WrV} {t : TypeId} (hA : At w bx (wrC v) t) (h : v.Wf) : Sl w (.slice (some ⟨bx, 17, none⟩) 32 32) v.key :=
  ⟨_, _, by rw [h.key], by rw [h.key]; exact Nat.le_refl _, fun _ => ⟨bx, 17, rfl, hA.lt, fun i hi => by
    rw [h.key] at hi
    have e := u8s_get v.key i (by rw [h.key]; exact hi)
    rw [hA.cell, ← e]
    have e2 : (wrL v)[17 + i]? = ((wrL v).drop 17)[i]? := by rw [List.getElem?_drop]
    simp only [wrC, List.getElem?_toArray]
    rw [e2, wr_drop17 h, List.getElem?_append_left (by rw [u8s_length, h.key]; exact hi)]⟩⟩
/-- j bytes of the rounds are laid. -/
structure CkInv (s : List (BitVec 8)) (r : Int) (w1 : World) (j : Nat) (v : Value) (wr : World) : Prop where
  o : OwnB wr w1.heap.size v (s ++ (rb4 r).take j)
  b : Below w1.heap.size w1 wr
set_option maxHeartbeats 4000000 in
theorem rcheck_any (b : List (BitVec 8)) (lb : b.length = 32) (v : WrV) (hv : v.Wf) (h0 : 0 ≤ v.r) (h1 : v.r ≤ 100) (w : World) :
    Calls Tryd.prog 22 #[.agg (u8s b).toArray, .agg (wrC v)] w fun e w' => e = .returned (.agg (u8s (ckK b v.salt v.r v.key)).toArray) ∧ Below w.heap.size w w' := by
  obtain ⟨Z, hZ⟩ : ∃ Z, Z = (u8s z32).toArray := ⟨_, rfl⟩
  have zs : Z.size = 32 := by rw [hZ]; simp [z32, u8s_length]
  have hx : ∀ w, (zeroValue 24).run Tryd.prog w = .ok (.agg Z) w := by rw [hZ]; exact zeroK32
  obtain ⟨CB, hCB⟩ : ∃ C, C = (u8s b).toArray := ⟨_, rfl⟩
  obtain ⟨CV, hCV⟩ : ∃ C, C = wrC v := ⟨_, rfl⟩
  obtain ⟨w1, hw1⟩ : ∃ w1, w1 = (((w.alloc (.cells CB 24)).alloc (.cells CV 34)).alloc (.cells Z 24)) := ⟨_, rfl⟩
  have a0 : At w1 w.heap.size CB 24 := by rw [hw1]; exact ((at_new w _ _).alloc _).alloc _
  have a1 : At w1 (w.heap.size + 1) CV 34 := by
    rw [hw1]
    have h := (at_new (w.alloc (.cells CB 24)) CV 34).alloc (.cells Z 24)
    simpa using h
  have a2 : At w1 (w.heap.size + 2) Z 24 := by
    rw [hw1]
    have h := at_new ((w.alloc (.cells CB 24)).alloc (.cells CV 34)) Z 24
    simpa using h
  have b1 : Below w.heap.size w w1 := by rw [hw1]; exact (((Below.refl _ _).alloc (Nat.le_refl _) _).alloc (by simp) _).alloc (by simp; omega) _
  have sb := at_sl (by rw [hCB] at a0; exact a0) lb
  have ss := sl_ws (by rw [hCV] at a1; exact a1) hv
  have sk := sl_wk (by rw [hCV] at a1; exact a1) hv
  have lsalt := hv.salt
  have lkey := hv.key
  have r16 : CV[16]? = some (.int .i64 v.r) := by rw [hCV]; exact wr_r hv
  have lck := ckK_length b v.salt v.r v.key
  have mac : ∀ (vk vm : Value) (wx : World), Sl wx vk b → Sl wx vm (v.salt ++ rb4 v.r ++ v.key) → Calls Tryd.prog 35 #[vk, vm] wx fun e w' => e = .returned (.agg (u8s (ckK b v.salt v.r v.key)).toArray) ∧ Below wx.heap.size wx w' := fun vk vm wx k1 k2 => rmac_any b (v.salt ++ rb4 v.r ++ v.key) vk vm wx k1 k2 (by omega) (by simp [rb4, lsalt, lkey])
  obtain ⟨T, hT⟩ : ∃ T, T = ckK b v.salt v.r v.key := ⟨_, rfl⟩
  rw [← hT] at mac lck ⊢
  obtain ⟨M, hM⟩ : ∃ M, M = (u8s T).toArray := ⟨_, rfl⟩
  have ms : M.size = 32 := by rw [hM]; simp [u8s_length, lck]
  have mo : M.all (·.oneCell') = true := by rw [hM]; exact u8s_one _
  rw [← hM] at mac ⊢
  obtain ⟨s, hs⟩ : ∃ s, s = v.salt := ⟨_, rfl⟩
  obtain ⟨r, hr⟩ : ∃ r, r = v.r := ⟨_, rfl⟩
  obtain ⟨key, hkey⟩ : ∃ key, key = v.key := ⟨_, rfl⟩
  rw [← hs] at ss mac lsalt
  rw [← hr] at r16 mac h0 h1
  rw [← hkey] at sk mac lkey
  rw [← hCB, ← hCV]
  have ZS := Lib.hid zs; have A0 := Lib.hid a0; have A1 := Lib.hid a1; have A2 := Lib.hid a2; have B1 := Lib.hid b1; have SB := Lib.hid sb; have SS := Lib.hid ss; have SK := Lib.hid sk; have R16 := Lib.hid r16; have MAC := Lib.hid mac; have MS := Lib.hid ms; have MO := Lib.hid mo; have LS := Lib.hid lsalt; have LK := Lib.hid lkey; have H0 := Lib.hid h0; have H1 := Lib.hid h1
  clear zs a0 a1 a2 b1 sb ss sk r16 mac ms mo lsalt lkey hZ hCB hCV hT hM hs hr hkey lck lb hv h0 h1
  go_enter Tryd.func22, Tryd.ntmps22
  go_upto_region 1 with fail
  rw [← hw1]
  clear hx hw1
  go_wp2_with (first
    | (refine wpList_slice_arr (by rfl) 23 _ (by rfl) 16 5 (w.heap.size + 1) 0 (by rfl) Tryd.underlying23 infoB ?_)
    | (at_builtin; go_loud (refine wpList_append_bytes (by rfl) _ _ (by rfl) w1.heap.size (.slice none 0 0) (.slice (some ⟨w.heap.size + 1, 0, none⟩) 16 16) [] s (by rfl) (OwnB.nil _ _) (by rfl) SS.out (by rw [LS.out]; decide) (Nat.le_refl _) ?_); intro v3 w3 ho3 _ hb3; have O3 : Hid (OwnB w3 w1.heap.size v3 s) := Lib.hid (by simpa using ho3); have B3 := Lib.hid hb3; clear ho3 hb3))
  go_loopw [5, 6] (fun u i wr => ∃ j : Nat, j ≤ 4 ∧ i = .int .i64 j ∧ ∃ u', u' = u ∧ CkInv s r w1 j u' wr) (fun _ i _ => 4 - (intOf i).toNat)
  case atStart => exact ⟨0, by omega, rfl, _, rfl, by simpa using O3.out, B3.out⟩
  case round =>
    clear O3 B3
    obtain ⟨j, hj, rfl, u, rfl, hI⟩ := hrel
    have hA := A1.out.below hI.b A1.out.lt
    by_cases hlt : j < 4
    · have hlt' : (j : Int) < 4 := by omega
      have c16 : wr.cell? ⟨w.heap.size + 1, 16, none⟩ = some (.int .i64 r) := (hA.cell 16).trans R16.out
      have OW : Hid (OwnV wr w1.heap.size 5 u (u8s (s ++ (rb4 r).take j))) := Lib.hid (ownB_V hI.o)
      have BB := Lib.hid hI.b
      have LN : Hid ((s ++ (rb4 r).take j).length ≤ 20) := Lib.hid (by rw [List.length_append, LS.out, List.length_take]; omega)
      clear hI hA
      go_wp2_with (at_builtin; go_loud (refine wpList_append_lit (by rfl) _ _ 22 (by rfl) _ (.int .u8 0) 1 elemB8 (by rfl) (by rfl) OW.out (by rfl) (by rfl) (by rw [u8s_length]; have := LN.out; omega) (by rw [u8s_length]; have := LN.out; omega) BB.out.size ?_); intro v8 w8 ho8 hk8 hb8 _; have O8 := Lib.hid ho8; have B8' := Lib.hid hb8; clear ho8 hk8 hb8)
      go_roundw
      case rel =>
        refine ⟨j + 1, by omega, by go_num, v8, rfl, ?_, BB.out.trans B8'.out⟩
        have h := O8.out
        rw [rb4_val r j hlt] at h
        apply ownV_B
        rw [rb4_take _ _ hlt, ← List.append_assoc, u8s_snoc]
        exact h
      case measure => simp [intOf]; omega
    · have hj4 : j = 4 := by omega
      have hge : ¬ (j : Int) < 4 := by omega
      subst hj4
      have OW : Hid (OwnB wr.drew w1.heap.size u (s ++ rb4 r)) := Lib.hid hI.o
      have D0 : Hid (Below w1.heap.size w1 wr.drew) := Lib.hid hI.b.drew
      clear hI hA hlt hj
      go_wp2_with fail
      refine wp_region_plan_in (fun y => Below w.heap.size w y) (.take 0 (.take 1 (.take 2 (.take 3 (.sole 4 (.sole 5 (.sole 6 .done))))))) (by kernel_rfl) (by kernel_rfl) (by kernel_rfl) (B1.out.trans (D0.out.mono B1.out.size)) ?_
      refine plan_cut 24 _ 32 5 w.heap.size 0 (by rfl) (by rfl) (by rfl) (by first | (with_reducible exact Mem.ev_const _ _) | (with_reducible exact Mem.ev_zero _ _ _) | (with_reducible (apply Eq.trans (Mem.ev_tmp _ _ _)); simp only [List.getD_cons_succ, List.getD_cons_zero] <;> rfl)) Tryd.underlying24 infoB ?_
      (simp only [Act.put, List.setIfInBounds_toArray, List.set_cons_zero, List.set_cons_succ])
      (first | (refine plan_move _ _ (by rfl) (by rfl) (.inl (by rfl)) (by first | (with_reducible exact Mem.ev_const _ _) | (with_reducible exact Mem.ev_zero _ _ _) | (with_reducible (apply Eq.trans (Mem.ev_tmp _ _ _)); simp only [List.getD_cons_succ, List.getD_cons_zero] <;> rfl)) ?_) | (refine plan_move _ _ (by rfl) (by rfl) (.inr (by rfl)) (by first | (with_reducible exact Mem.ev_const _ _) | (with_reducible exact Mem.ev_zero _ _ _) | (with_reducible (apply Eq.trans (Mem.ev_tmp _ _ _)); simp only [List.getD_cons_succ, List.getD_cons_zero] <;> rfl)) ?_) | (refine plan_pick_t _ _ _ _ (by rfl) (by rfl) (by rfl) (by first | (with_reducible exact Mem.ev_const _ _) | (with_reducible exact Mem.ev_zero _ _ _) | (with_reducible (apply Eq.trans (Mem.ev_tmp _ _ _)); simp only [List.getD_cons_succ, List.getD_cons_zero] <;> rfl)) (by first | (with_reducible exact Mem.ev_const _ _) | (with_reducible exact Mem.ev_zero _ _ _) | (with_reducible (apply Eq.trans (Mem.ev_tmp _ _ _)); simp only [List.getD_cons_succ, List.getD_cons_zero] <;> rfl)) ?_) | (refine plan_pick_f _ _ _ _ (by rfl) (by rfl) (by rfl) (by first | (with_reducible exact Mem.ev_const _ _) | (with_reducible exact Mem.ev_zero _ _ _) | (with_reducible (apply Eq.trans (Mem.ev_tmp _ _ _)); simp only [List.getD_cons_succ, List.getD_cons_zero] <;> rfl)) (by first | (with_reducible exact Mem.ev_const _ _) | (with_reducible exact Mem.ev_zero _ _ _) | (with_reducible (apply Eq.trans (Mem.ev_tmp _ _ _)); simp only [List.getD_cons_succ, List.getD_cons_zero] <;> rfl)) ?_))
      (simp only [Act.put, List.setIfInBounds_toArray, List.set_cons_zero, List.set_cons_succ])
      refine plan_field 34 _ 2 (w.heap.size + 1) 0 ⟨w.heap.size + 1, 17, none⟩ (by rfl) (by rfl) (by rfl) (by first | (with_reducible exact Mem.ev_const _ _) | (with_reducible exact Mem.ev_zero _ _ _) | (with_reducible (apply Eq.trans (Mem.ev_tmp _ _ _)); simp only [List.getD_cons_succ, List.getD_cons_zero] <;> rfl)) (fun wx => by go_simp) ?_
      (simp only [Act.put, List.setIfInBounds_toArray, List.set_cons_zero, List.set_cons_succ])
      refine plan_cut 24 _ 32 5 (w.heap.size + 1) 17 (by rfl) (by rfl) (by rfl) (by first | (with_reducible exact Mem.ev_const _ _) | (with_reducible exact Mem.ev_zero _ _ _) | (with_reducible (apply Eq.trans (Mem.ev_tmp _ _ _)); simp only [List.getD_cons_succ, List.getD_cons_zero] <;> rfl)) Tryd.underlying24 infoB ?_
      (simp only [Act.put, List.setIfInBounds_toArray, List.set_cons_zero, List.set_cons_succ])
      refine plan_append_b _ _ (by rfl) (by rfl) (by rfl) w1.heap.size u (.slice (some ⟨w.heap.size + 1, 17, none⟩) 32 32) (s ++ rb4 r) key (by first | (with_reducible exact Mem.ev_const _ _) | (with_reducible exact Mem.ev_zero _ _ _) | (with_reducible (apply Eq.trans (Mem.ev_tmp _ _ _)); simp only [List.getD_cons_succ, List.getD_cons_zero] <;> rfl)) OW.out (by first | (with_reducible exact Mem.ev_const _ _) | (with_reducible exact Mem.ev_zero _ _ _) | (with_reducible (apply Eq.trans (Mem.ev_tmp _ _ _)); simp only [List.getD_cons_succ, List.getD_cons_zero] <;> rfl)) (SK.out.below D0.out) (by rw [LK.out, List.length_append, LS.out]; simp [rb4]) D0.out.size ?_
      intro v5 w5 ho5 _ hb5
      have D1 : Hid (Below w1.heap.size w1 w5) := Lib.hid (D0.out.trans hb5); have O5 := Lib.hid ho5
      clear ho5 hb5
      refine ⟨B1.out.trans (D1.out.mono B1.out.size), ?_⟩
      (simp only [Act.put, List.setIfInBounds_toArray, List.set_cons_zero, List.set_cons_succ])
      refine plan_call 35 _ _ _ (by kernel_rfl) (by rfl) (by rfl) (by rfl) (by first | exact Mem.ev_none _ | (simp only [List.map_toArray, List.map_cons, List.map_nil, Mem.ev_tmp, List.getD_cons_succ, List.getD_cons_zero] <;> rfl)) ?_
      refine (MAC.out _ _ w5 (SB.out.below D1.out) O5.out.sl).mono ?_
      rintro o6 w6 ⟨rfl, hb⟩
      have D2 : Hid (Below w1.heap.size w1 w6) := Lib.hid (D1.out.trans (hb.mono D1.out.size))
      clear hb
      refine ⟨_, rfl, B1.out.trans (D2.out.mono B1.out.size), ?_⟩
      (simp only [Act.put, List.setIfInBounds_toArray, List.set_cons_zero, List.set_cons_succ])
      have A5 := Lib.hid (A2.out.below D2.out A2.out.lt)
      have D4 : Hid (Below w.heap.size w (w6.setRow (w.heap.size + 2) M)) := Lib.hid (below_row (B1.out.trans (D2.out.mono B1.out.size)) (Nat.le_add_right _ _) M)
      refine plan_store 24 _ _ (w.heap.size + 2) M Z 24 (by rfl) (by rfl) (by rfl) (by rfl) (by first | (with_reducible exact Mem.ev_const _ _) | (with_reducible exact Mem.ev_zero _ _ _) | (with_reducible (apply Eq.trans (Mem.ev_tmp _ _ _)); simp only [List.getD_cons_succ, List.getD_cons_zero] <;> rfl)) (by first | (with_reducible exact Mem.ev_const _ _) | (with_reducible exact Mem.ev_zero _ _ _) | (with_reducible (apply Eq.trans (Mem.ev_tmp _ _ _)); simp only [List.getD_cons_succ, List.getD_cons_zero] <;> rfl)) (by rw [MS.out]; exact infoDg) A5.out (by rw [MS.out, ZS.out]) MO.out D4.out ?_
      refine plan_nil ?_
      go_wp2_with fail
      try simp only [Exit.inBlock, Exit.then]
      refine ret_row (by rfl) (w.heap.size + 2) 24 M _ (by rfl) (A5.out.row M) Tryd.underlying24 (by rfl) (by rw [MS.out]; exact infoDg) ?_
      exact ⟨rfl, D4.out⟩
end Sha
end Go.Proofs.YtjadjidjfkahpaaDoor
namespace Go.Proofs.YtjadjidjfkahpaaDoor
namespace Sha
open Go.RowKit Mem
set_option maxRecDepth 100000
/-- It returns a wrapped key, and a number. -/
def WrapEnd (w : World) (v : WrV) (n : Int) (e : Ending) (w' : World) : Prop := e = .returned (.tuple #[.agg (wrC v), .int .i64 n]) ∧ Below w.heap.size w w'
/-- It returns a key, and a number. -/
def KeyEnd (w : World) (k : List (BitVec 8)) (n : Int) (e : Ending) (w' : World) : Prop := e = .returned (.tuple #[.agg (u8s k).toArray, .int .i64 n]) ∧ Below w.heap.size w w'
set_option maxHeartbeats 4000000 in
theorem rwrap_any (p s : List (BitVec 8)) (ls : s.length = 16) (r : Int) (h0 : -9223372036854775808 ≤ r) (h1 : r ≤ 9223372036854775807) (m : List (BitVec 8)) (lm : m.length = 32) (v : Value) (w : World) (hp : Sl w v p) (lp : p.length ≤ 1000000) :
    Calls Tryd.prog 10 #[v, .agg (u8s s).toArray, .int .i64 r, .agg (u8s m).toArray] w (WrapEnd w (wrapR p s r m).1 (wrapR p s r m).2) := by
  have half := fun wx (h : Below w.heap.size w wx) => rhalves_any p s ls r v wx (hp.below h) lp
  obtain ⟨Z, hZ⟩ : ∃ Z, Z = (u8s z32).toArray := ⟨_, rfl⟩
  have zs : Z.size = 32 := by rw [hZ]; simp [z32, u8s_length]
  obtain ⟨ZW, hZW⟩ : ∃ Z, Z = wrC zwr := ⟨_, rfl⟩
  have zws : ZW.size = 81 := by rw [hZW]; exact wrC_size zwr_wf
  have zwo : ZW.all (·.oneCell') = true := by rw [hZW]; exact wrC_one _
  have hx : ∀ w, (zeroValue 24).run Tryd.prog w = .ok (.agg Z) w := by rw [hZ]; exact zeroK32
  have hxw : ∀ w, (zeroValue 34).run Tryd.prog w = .ok (.agg ZW) w := by rw [hZW]; exact zeroWrR
  have bn : ∀ w, (Instr.build 34 #[]).run Tryd.prog w = .ok (.agg ZW) w := by rw [hZW]; exact buildWR0
  obtain ⟨CS, hCS⟩ : ∃ C, C = (u8s s).toArray := ⟨_, rfl⟩
  have css : CS.size = 16 := by rw [hCS]; simp [u8s_length, ls]
  obtain ⟨CM, hCM⟩ : ∃ C, C = (u8s m).toArray := ⟨_, rfl⟩
  have cms : CM.size = 32 := by rw [hCM]; simp [u8s_length, lm]
  obtain ⟨w1, hw1⟩ : ∃ w1, w1 = (((w.alloc (.cells CS 23)).alloc (.cells CM 24)).alloc (.cells ZW 34)) := ⟨_, rfl⟩
  have a0 : At w1 w.heap.size CS 23 := by rw [hw1]; exact ((at_new w _ _).alloc _).alloc _
  have a1 : At w1 (w.heap.size + 1) CM 24 := by
    rw [hw1]
    have h := (at_new (w.alloc (.cells CS 23)) CM 24).alloc (.cells ZW 34)
    simpa using h
  have a2 : At w1 (w.heap.size + 2) ZW 34 := by
    rw [hw1]
    have h := at_new ((w.alloc (.cells CS 23)).alloc (.cells CM 24)) ZW 34
    simpa using h
  have b1 : Below w.heap.size w w1 := by rw [hw1]; exact (((Below.refl _ _).alloc (Nat.le_refl _) _).alloc (by simp) _).alloc (by simp; omega) _
  rw [← hCS] at half ⊢
  have la : (halvesR p s r).1.length = 32 := by unfold halvesR; split; rfl; exact half1_length _ _ _
  have lb : (halvesR p s r).2.1.length = 32 := by unfold halvesR; split; rfl; exact half2_length _ _ _
  have hcase : ((halvesR p s r).2.2 = 1 ∧ wrapR p s r m = (zwr, 1)) ∨ ((halvesR p s r).2.2 = 0 ∧ 0 ≤ r ∧ r ≤ 100 ∧ wrapR p s r m = (⟨s, r, turnK (halvesR p s r).1 m, ckK (halvesR p s r).2.1 s r (turnK (halvesR p s r).1 m)⟩, 0)) := by
    cases hb : rBad r
    · have hr : ¬ (r < 1 ∨ 100 < r) := fun h => by rw [(rBad_iff r).2 h] at hb; cases hb
      refine .inr ⟨by unfold halvesR; rw [hb]; rfl, by omega, by omega, ?_⟩
      unfold wrapR halvesR wrapV
      rw [hb]
      rfl
    · exact .inl ⟨by unfold halvesR; rw [if_pos hb], by unfold wrapR; rw [if_pos hb]⟩
  obtain ⟨ha, hha⟩ : ∃ x, x = (halvesR p s r).1 := ⟨_, rfl⟩
  obtain ⟨hb, hhb⟩ : ∃ x, x = (halvesR p s r).2.1 := ⟨_, rfl⟩
  obtain ⟨n, hn⟩ : ∃ x, x = (halvesR p s r).2.2 := ⟨_, rfl⟩
  rw [← hha, ← hhb, ← hn] at half hcase
  rw [← hha] at la
  rw [← hhb] at lb
  obtain ⟨MA, hMA⟩ : ∃ M, M = (u8s ha).toArray := ⟨_, rfl⟩
  obtain ⟨MB, hMB⟩ : ∃ M, M = (u8s hb).toArray := ⟨_, rfl⟩
  have mas : MA.size = 32 := by rw [hMA]; simp [u8s_length, la]
  have mbs : MB.size = 32 := by rw [hMB]; simp [u8s_length, lb]
  have mao : MA.all (·.oneCell') = true := by rw [hMA]; exact u8s_one _
  have mbo : MB.all (·.oneCell') = true := by rw [hMB]; exact u8s_one _
  have hlf : ∀ wx, Below w.heap.size w wx → Calls Tryd.prog 12 #[v, .agg CS, .int .i64 r] wx fun e w' => e = .returned (.tuple #[.agg MA, .agg MB, .int .i64 n]) ∧ Below wx.heap.size wx w' := fun wx h => by rw [hMA, hMB]; exact half wx h
  clear half hn hha hhb
  have tk := fun wx => rturnK_any ha m la lm wx
  have lt := turnK_length ha m
  rw [lm] at lt
  obtain ⟨K, hK⟩ : ∃ K, K = turnK ha m := ⟨_, rfl⟩
  rw [← hK] at tk lt hcase
  have ck := fun (g0 : 0 ≤ r) (g1 : r ≤ 100) wx => rcheck_any hb lb ⟨s, r, K, z32⟩ (wr_mk s r K z32 ls lt rfl h0 h1) g0 g1 wx
  simp only at ck
  have lck := ckK_length hb s r K
  obtain ⟨T, hT⟩ : ∃ T, T = ckK hb s r K := ⟨_, rfl⟩
  rw [← hT] at ck lck hcase
  obtain ⟨MK, hMK⟩ : ∃ M, M = (u8s K).toArray := ⟨_, rfl⟩
  obtain ⟨MT, hMT⟩ : ∃ M, M = (u8s T).toArray := ⟨_, rfl⟩
  have mts : MT.size = 32 := by rw [hMT]; simp [u8s_length, lck]
  have mto : MT.all (·.oneCell') = true := by rw [hMT]; exact u8s_one _
  have bw := fun wx => buildWR3 s r K ls lt wx
  have wf0 := wr_mk s r K z32 ls lt rfl h0 h1
  have wf1 := wr_mk s r K T ls lt lck h0 h1
  obtain ⟨W0, hW0⟩ : ∃ W, W = wrC ⟨s, r, K, z32⟩ := ⟨_, rfl⟩
  obtain ⟨W1, hW1⟩ : ∃ W, W = wrC ⟨s, r, K, T⟩ := ⟨_, rfl⟩
  have w0s : W0.size = 81 := by rw [hW0]; exact wrC_size wf0
  have w1s : W1.size = 81 := by rw [hW1]; exact wrC_size wf1
  have w0o : W0.all (·.oneCell') = true := by rw [hW0]; exact wrC_one _
  have w1o : W1.all (·.oneCell') = true := by rw [hW1]; exact wrC_one _
  have hset : Mem.splice W0 49 MT.toList = W1 := by rw [hW0, hMT, hW1]; exact wr_setck wf0 T lck
  rw [← hCS, ← hMK, ← hW0] at bw
  rw [← hMB, ← hMT, ← hW0] at ck
  rw [← hMA, ← hCM, ← hMK] at tk
  rw [← hCM]
  have al : ∀ w : World, (Instr.alloc 34 true (.tuple #[])).run Tryd.prog w = .ok (.pointer (some ⟨w.heap.size, 0, none⟩)) (w.alloc (.cells ZW 34)) := by rw [hZW]; exact fun w => by kernel_rfl
  obtain ⟨PR, hPR⟩ : ∃ PR, PR = wrapR p s r m := ⟨_, rfl⟩
  rw [← hPR] at hcase ⊢
  have hcase2 : (n = 1 ∧ wrC PR.1 = ZW ∧ PR.2 = 1) ∨ (n = 0 ∧ 0 ≤ r ∧ r ≤ 100 ∧ wrC PR.1 = W1 ∧ PR.2 = 0) := by
    rcases hcase with ⟨h1, h2⟩ | ⟨h1, h2, h3, h4⟩
    · exact .inl ⟨h1, by rw [h2, hZW], by rw [h2]⟩
    · exact .inr ⟨h1, h2, h3, by rw [h4, hW1], by rw [h4]⟩
  have ZS := Lib.hid zs; have ZWS := Lib.hid zws; have ZWO := Lib.hid zwo; have BN := Lib.hid bn; have CSS := Lib.hid css; have CMS := Lib.hid cms; have A0 := Lib.hid a0; have A1 := Lib.hid a1; have A2 := Lib.hid a2; have B1 := Lib.hid b1; have HALF := Lib.hid hlf; have MAS := Lib.hid mas; have MBS := Lib.hid mbs; have MAO := Lib.hid mao; have MBO := Lib.hid mbo; have TK := Lib.hid tk; have CK := Lib.hid ck; have MTS := Lib.hid mts; have MTO := Lib.hid mto; have BW := Lib.hid bw; have W0S := Lib.hid w0s; have W1S := Lib.hid w1s; have W0O := Lib.hid w0o; have W1O := Lib.hid w1o; have SET := Lib.hid hset; have AL := Lib.hid al; have HC := Lib.hid hcase2
  clear zs zws zwo bn css cms a0 a1 a2 b1 hlf mas mbs mao mbo tk ck mts mto bw wf0 wf1 w0s w1s w0o w1o hset al hcase hcase2 hZ hZW hCS hCM hMA hMB hK hT hMK hMT hW0 hW1 hPR hp lp ls lm la lb lt lck h0 h1
  go_enter Tryd.func10, Tryd.ntmps10
  go_upto_region 1 with fail
  rw [← hw1]
  clear hw1
  go_wp2_with (refine wpList_load_all (by rfl) 23 _ (by rfl) w.heap.size (by rfl) _ Tryd.underlying23 (by rfl) CS _ A0.out (by rw [CSS.out]; exact infoS16) ?_)
  refine (HALF.out w1 B1.out).mono ?_
  rintro e w2 ⟨rfl, hb2⟩
  have HL : Hid (w.heap.size + 2 < w2.heap.size) := Lib.hid (A2.out.below hb2 A2.out.lt).lt
  have X0 := Lib.hid (((A0.out.below hb2 A0.out.lt).alloc (.cells Z 24)).alloc (.cells Z 24)); have X1 := Lib.hid (((A1.out.below hb2 A1.out.lt).alloc (.cells Z 24)).alloc (.cells Z 24)); have X2 := Lib.hid (((A2.out.below hb2 A2.out.lt).alloc (.cells Z 24)).alloc (.cells Z 24))
  have B2 := Lib.hid (B1.out.trans (hb2.mono B1.out.size))
  have A10 : Hid (At ((w2.alloc (.cells Z 24)).alloc (.cells Z 24)) w2.heap.size Z 24) := Lib.hid ((at_new w2 Z _).alloc _)
  have A11 : Hid (At ((w2.alloc (.cells Z 24)).alloc (.cells Z 24)) (w2.heap.size + 1) Z 24) := Lib.hid (by have h := at_new (w2.alloc (.cells Z 24)) Z 24; simpa using h)
  have B3 : Hid (Below w.heap.size w ((w2.alloc (.cells Z 24)).alloc (.cells Z 24))) := Lib.hid ((B2.out.alloc B2.out.size _).alloc (by have := B2.out.size; simp; omega) _)
  clear hb2 A0 A1 A2 B1 B2 HALF
  go_upto_region 2 with (first
    | (refine wpList_store_all (by rfl) 24 _ _ (by rfl) (by rfl) w2.heap.size MA (by rfl) (by rfl) (by rw [MAS.out]; exact infoDg) Z _ A10.out (by rw [MAS.out, ZS.out]) MAO.out ?_)
    | (refine wpList_store_all (by rfl) 24 _ _ (by rfl) (by rfl) (w2.heap.size + 1) MB (by rfl) (by rfl) (by rw [MBS.out]; exact infoDg) Z _ (A11.out.row_other MA (by omega)) (by rw [MBS.out, ZS.out]) MBO.out ?_))
  clear hx
  obtain ⟨g, hg⟩ : ∃ g, g = w2.heap.size := ⟨_, rfl⟩
  rw [← hg] at A10 A11 HL ⊢
  have Y0 := Lib.hid ((X0.out.row_other (g := g) MA (by have := HL.out; omega)).row_other (g := g + 1) MB (by have := HL.out; omega)); have Y1 := Lib.hid ((X1.out.row_other (g := g) MA (by have := HL.out; omega)).row_other (g := g + 1) MB (by have := HL.out; omega)); have Y2 := Lib.hid ((X2.out.row_other (g := g) MA (by have := HL.out; omega)).row_other (g := g + 1) MB (by have := HL.out; omega))
  have Y10 := Lib.hid ((A10.out.row MA).row_other (g := g + 1) MB (by omega)); have Y11 := Lib.hid ((A11.out.row_other (g := g) MA (by omega)).row MB)
  have BQ := Lib.hid (below_row (below_row B3.out (g := g) (by have := HL.out; omega) MA) (g := g + 1) (by have := HL.out; omega) MB)
  clear X0 X1 X2 A10 A11 B3 hg
  generalize ((((w2.alloc (.cells Z 24)).alloc (.cells Z 24)).setRow g MA).setRow (g + 1) MB) = wq at *
  rcases HC.out with ⟨rfl, e1, e2⟩ | ⟨rfl, g0, g1, e1, e2⟩
  · clear hxw
    go_wp2_with (first
      | (refine Mem.wpList_build (by rfl) 34 _ #[] (.agg ZW) (by rfl) (by simp) BN.out ?_)
      | (refine wpList_store_all (by rfl) 34 _ _ (by rfl) (by rfl) (w.heap.size + 2) ZW (by rfl) (by rfl) (by rw [ZWS.out]; exact infoWrR) ZW _ Y2.out (by rfl) ZWO.out ?_))
    try simp only [Exit.inBlock, Exit.then]
    refine ret_row_tmp (by rfl) (w.heap.size + 2) 34 ZW _ (.int .i64 1) (by rfl) (by rfl) (Y2.out.row ZW) Tryd.underlying34 (by rfl) (by rw [ZWS.out]; exact infoWrR) ?_
    exact ⟨by first | rw [e1, e2] | rw [e1], below_row BQ.out (Nat.le_add_right _ _) ZW⟩
  · have CKC := Lib.hid (CK.out g0 g1)
    clear CK g0 g1
    go_upto_region 4 with fail
    clear hxw
    go_cut [13] (fun t wx => ∃ gw, .pointer (some ⟨gw, 0, none⟩) = t ∧ At wx gw W0 34 ∧ wq.heap.size ≤ gw ∧ Below wq.heap.size wq wx)
    case first =>
      have D0 : Hid (Below wq.heap.size wq wq.drew) := Lib.hid (Below.refl _ _).drew
      refine wp_region_plan_in (fun x => Below wq.heap.size wq x) (.take 0 (.take 1 (.take 2 (.take 3 (.two 4 6 (.take 5 (.sole 6 (.sole 7 .done))) (.sole 4 (.take 5 (.sole 7 .done)))))))) (by kernel_rfl) (by kernel_rfl) (by kernel_rfl) D0.out ?_
      refine plan_row 23 _ w.heap.size _ CS 23 (by rfl) (by rfl) (by rfl) (by first | (with_reducible exact Mem.ev_const _ _) | (with_reducible exact Mem.ev_zero _ _ _) | (with_reducible (apply Eq.trans (Mem.ev_tmp _ _ _)); simp only [List.getD_cons_succ, List.getD_cons_zero] <;> rfl)) (fun w' hw' => Y0.out.below hw' Y0.out.lt) Tryd.underlying23 (by rfl) (by rw [CSS.out]; exact infoS16) ?_
      (simp only [Act.put, List.setIfInBounds_toArray, List.set_cons_zero, List.set_cons_succ])
      (first | (refine plan_move _ _ (by rfl) (by rfl) (.inl (by rfl)) (by first | (with_reducible exact Mem.ev_const _ _) | (with_reducible exact Mem.ev_zero _ _ _) | (with_reducible (apply Eq.trans (Mem.ev_tmp _ _ _)); simp only [List.getD_cons_succ, List.getD_cons_zero] <;> rfl)) ?_) | (refine plan_move _ _ (by rfl) (by rfl) (.inr (by rfl)) (by first | (with_reducible exact Mem.ev_const _ _) | (with_reducible exact Mem.ev_zero _ _ _) | (with_reducible (apply Eq.trans (Mem.ev_tmp _ _ _)); simp only [List.getD_cons_succ, List.getD_cons_zero] <;> rfl)) ?_) | (refine plan_pick_t _ _ _ _ (by rfl) (by rfl) (by rfl) (by first | (with_reducible exact Mem.ev_const _ _) | (with_reducible exact Mem.ev_zero _ _ _) | (with_reducible (apply Eq.trans (Mem.ev_tmp _ _ _)); simp only [List.getD_cons_succ, List.getD_cons_zero] <;> rfl)) (by first | (with_reducible exact Mem.ev_const _ _) | (with_reducible exact Mem.ev_zero _ _ _) | (with_reducible (apply Eq.trans (Mem.ev_tmp _ _ _)); simp only [List.getD_cons_succ, List.getD_cons_zero] <;> rfl)) ?_) | (refine plan_pick_f _ _ _ _ (by rfl) (by rfl) (by rfl) (by first | (with_reducible exact Mem.ev_const _ _) | (with_reducible exact Mem.ev_zero _ _ _) | (with_reducible (apply Eq.trans (Mem.ev_tmp _ _ _)); simp only [List.getD_cons_succ, List.getD_cons_zero] <;> rfl)) (by first | (with_reducible exact Mem.ev_const _ _) | (with_reducible exact Mem.ev_zero _ _ _) | (with_reducible (apply Eq.trans (Mem.ev_tmp _ _ _)); simp only [List.getD_cons_succ, List.getD_cons_zero] <;> rfl)) ?_))
      (simp only [Act.put, List.setIfInBounds_toArray, List.set_cons_zero, List.set_cons_succ])
      refine plan_row 24 _ g _ MA 24 (by rfl) (by rfl) (by rfl) (by first | (with_reducible exact Mem.ev_const _ _) | (with_reducible exact Mem.ev_zero _ _ _) | (with_reducible (apply Eq.trans (Mem.ev_tmp _ _ _)); simp only [List.getD_cons_succ, List.getD_cons_zero] <;> rfl)) (fun w' hw' => Y10.out.below hw' Y10.out.lt) Tryd.underlying24 (by rfl) (by rw [MAS.out]; exact infoDg) ?_
      (simp only [Act.put, List.setIfInBounds_toArray, List.set_cons_zero, List.set_cons_succ])
      refine plan_row 24 _ (w.heap.size + 1) _ CM 24 (by rfl) (by rfl) (by rfl) (by first | (with_reducible exact Mem.ev_const _ _) | (with_reducible exact Mem.ev_zero _ _ _) | (with_reducible (apply Eq.trans (Mem.ev_tmp _ _ _)); simp only [List.getD_cons_succ, List.getD_cons_zero] <;> rfl)) (fun w' hw' => Y1.out.below hw' Y1.out.lt) Tryd.underlying24 (by rfl) (by rw [CMS.out]; exact infoDg) ?_
      (simp only [Act.put, List.setIfInBounds_toArray, List.set_cons_zero, List.set_cons_succ])
      refine plan_two ?_ ?_
      · refine plan_call 21 _ _ _ (by kernel_rfl) (by rfl) (by rfl) (by rfl) (by first | exact Mem.ev_none _ | (simp only [List.map_toArray, List.map_cons, List.map_nil, Mem.ev_tmp, List.getD_cons_succ, List.getD_cons_zero] <;> rfl)) ?_
        refine (TK.out _).mono ?_
        rintro o3 w3 ⟨rfl, hb⟩
        have D1 : Hid (Below wq.heap.size wq w3) := Lib.hid (D0.out.trans (hb.mono D0.out.size))
        clear hb
        refine ⟨_, rfl, D1.out, ?_⟩
        (simp only [Act.put, List.setIfInBounds_toArray, List.set_cons_zero, List.set_cons_succ])
        refine plan_build 34 _ #[(0, .agg CS), (1, .int .i64 r), (2, .agg MK)] (.agg W0) (by rfl) (by rfl) (by rfl) (by first | rfl | simp [Act.eval]) (fun wx => BW.out wx) ?_
        (simp only [Act.put, List.setIfInBounds_toArray, List.set_cons_zero, List.set_cons_succ])
        refine plan_alloc _ ZW (by rfl) (by rfl) (by rfl) AL.out (D1.out.alloc D1.out.size _) ?_
        have GL : Hid (wq.heap.size ≤ w3.heap.size) := Lib.hid D1.out.size
        have D2 : Hid (Below wq.heap.size wq (w3.alloc (.cells ZW 34))) := Lib.hid (D1.out.alloc D1.out.size _)
        have AG := Lib.hid (at_new w3 ZW 34)
        (simp only [Act.put, List.setIfInBounds_toArray, List.set_cons_zero, List.set_cons_succ])
        refine plan_store 34 _ _ w3.heap.size W0 ZW 34 (by rfl) (by rfl) (by rfl) (by rfl) (by first | (with_reducible exact Mem.ev_const _ _) | (with_reducible exact Mem.ev_zero _ _ _) | (with_reducible (apply Eq.trans (Mem.ev_tmp _ _ _)); simp only [List.getD_cons_succ, List.getD_cons_zero] <;> rfl)) (by first | (with_reducible exact Mem.ev_const _ _) | (with_reducible exact Mem.ev_zero _ _ _) | (with_reducible (apply Eq.trans (Mem.ev_tmp _ _ _)); simp only [List.getD_cons_succ, List.getD_cons_zero] <;> rfl)) (by rw [W0S.out]; exact infoWrR) AG.out (by rw [W0S.out, ZWS.out]) W0O.out (below_row D2.out GL.out W0) ?_
        refine plan_nil ?_
        go_wp2_with fail
        go_meet
        exact ⟨_, rfl, AG.out.row W0, GL.out, below_row D2.out GL.out W0⟩
      · refine plan_alloc _ ZW (by rfl) (by rfl) (by rfl) AL.out (D0.out.alloc D0.out.size _) ?_
        have GL : Hid (wq.heap.size ≤ wq.drew.heap.size) := Lib.hid D0.out.size
        have D2 : Hid (Below wq.heap.size wq (wq.drew.alloc (.cells ZW 34))) := Lib.hid (D0.out.alloc D0.out.size _)
        have AG := Lib.hid (at_new wq.drew ZW 34)
        (simp only [Act.put, List.setIfInBounds_toArray, List.set_cons_zero, List.set_cons_succ])
        refine plan_call 21 _ _ _ (by kernel_rfl) (by rfl) (by rfl) (by rfl) (by first | exact Mem.ev_none _ | (simp only [List.map_toArray, List.map_cons, List.map_nil, Mem.ev_tmp, List.getD_cons_succ, List.getD_cons_zero] <;> rfl)) ?_
        refine (TK.out _).mono ?_
        rintro o3 w3 ⟨rfl, hb⟩
        have D3 : Hid (Below wq.heap.size wq w3) := Lib.hid (D2.out.trans (hb.mono D2.out.size)); have AG2 := Lib.hid (AG.out.below hb AG.out.lt)
        clear hb
        refine ⟨_, rfl, D3.out, ?_⟩
        (simp only [Act.put, List.setIfInBounds_toArray, List.set_cons_zero, List.set_cons_succ])
        refine plan_build 34 _ #[(0, .agg CS), (1, .int .i64 r), (2, .agg MK)] (.agg W0) (by rfl) (by rfl) (by rfl) (by first | rfl | simp [Act.eval]) (fun wx => BW.out wx) ?_
        (simp only [Act.put, List.setIfInBounds_toArray, List.set_cons_zero, List.set_cons_succ])
        refine plan_store 34 _ _ wq.drew.heap.size W0 ZW 34 (by rfl) (by rfl) (by rfl) (by rfl) (by first | (with_reducible exact Mem.ev_const _ _) | (with_reducible exact Mem.ev_zero _ _ _) | (with_reducible (apply Eq.trans (Mem.ev_tmp _ _ _)); simp only [List.getD_cons_succ, List.getD_cons_zero] <;> rfl)) (by first | (with_reducible exact Mem.ev_const _ _) | (with_reducible exact Mem.ev_zero _ _ _) | (with_reducible (apply Eq.trans (Mem.ev_tmp _ _ _)); simp only [List.getD_cons_succ, List.getD_cons_zero] <;> rfl)) (by rw [W0S.out]; exact infoWrR) AG2.out (by rw [W0S.out, ZWS.out]) W0O.out (below_row D3.out GL.out W0) ?_
        refine plan_nil ?_
        go_wp2_with fail
        go_meet
        exact ⟨_, rfl, AG2.out.row W0, GL.out, below_row D3.out GL.out W0⟩
    case rest =>
      obtain ⟨gw, rfl, hga, hgl, hgb⟩ := hcut
      have GA := Lib.hid hga; have GL := Lib.hid hgl; have GB := Lib.hid hgb
      have Z11 := Lib.hid (Y11.out.below hgb Y11.out.lt); have Z2 := Lib.hid (Y2.out.below hgb Y2.out.lt)
      have QL : Hid (w.heap.size + 2 < wq.heap.size) := Lib.hid Y2.out.lt
      clear hga hgl hgb Y0 Y1 Y2 Y10 Y11
      go_wp2_with (first
        | (refine wpList_load_all (by rfl) 24 _ (by rfl) (g + 1) (by rfl) _ Tryd.underlying24 (by rfl) MB _ Z11.out (by rw [MBS.out]; exact infoDg) ?_)
        | (refine wpList_load_all (by rfl) 34 _ (by rfl) gw (by rfl) _ Tryd.underlying34 (by rfl) W0 _ GA.out (by rw [W0S.out]; exact infoWrR) ?_))
      refine (CKC.out wc).mono ?_
      rintro e w5 ⟨rfl, hb⟩
      have GA5 := Lib.hid (GA.out.below hb GA.out.lt); have Z5 := Lib.hid (Z2.out.below hb Z2.out.lt); have GB5 := Lib.hid (GB.out.trans (hb.mono GB.out.size))
      clear hb GA GB Z2 Z11
      go_wp2_with (first
        | (refine wpList_store_at (by rfl) 24 _ _ (by rfl) (by rfl) gw 49 MT (by rfl) (by rfl) (by rw [MTS.out]; exact infoDg) W0 _ GA5.out (by rw [MTS.out, W0S.out]; decide) MTO.out ?_; rw [SET.out])
        | (refine wpList_load_all (by rfl) 34 _ (by rfl) gw (by rfl) _ Tryd.underlying34 (by rfl) W1 _ (GA5.out.row W1) (by rw [W1S.out]; exact infoWrR) ?_)
        | (refine wpList_store_all (by rfl) 34 _ _ (by rfl) (by rfl) (w.heap.size + 2) W1 (by rfl) (by rfl) (by rw [W1S.out]; exact infoWrR) ZW _ (Z5.out.row_other (g := gw) W1 (by have := QL.out; have := GL.out; omega)) (by rw [W1S.out, ZWS.out]) W1O.out ?_))
      try simp only [Exit.inBlock, Exit.then]
      refine ret_row_tmp (by rfl) (w.heap.size + 2) 34 W1 _ (.int .i64 0) (by rfl) (by rfl) ((Z5.out.row_other (g := gw) W1 (by have := QL.out; have := GL.out; omega)).row W1) Tryd.underlying34 (by rfl) (by rw [W1S.out]; exact infoWrR) ?_
      exact ⟨by first | rw [e1, e2] | rw [e1], below_row (below_row (BQ.out.trans (GB5.out.mono BQ.out.size)) (g := gw) (by have := QL.out; have := GL.out; omega) W1) (Nat.le_add_right _ _) W1⟩
end Sha
end Go.Proofs.YtjadjidjfkahpaaDoor
namespace Go.Proofs.YtjadjidjfkahpaaDoor
namespace Sha
open Go.RowKit Mem
set_option maxRecDepth 100000
set_option maxHeartbeats 4000000 in
theorem runwrap_any (p : List (BitVec 8)) (x : WrV) (hx' : x.Wf) (v : Value) (w : World) (hp : Sl w v p) (lp : p.length ≤ 1000000) :
    Calls Tryd.prog 16 #[v, .agg (wrC x)] w (KeyEnd w (unwrapR p x).1 (unwrapR p x).2) := by
  have half := fun wx (h : Below w.heap.size w wx) => rhalves_any p x.salt hx'.salt x.r v wx (hp.below h) lp
  obtain ⟨Z, hZ⟩ : ∃ Z, Z = (u8s z32).toArray := ⟨_, rfl⟩
  have zs : Z.size = 32 := by rw [hZ]; simp [z32, u8s_length]
  have zo : Z.all (·.oneCell') = true := by rw [hZ]; exact u8s_one _
  have hx : ∀ w, (zeroValue 24).run Tryd.prog w = .ok (.agg Z) w := by rw [hZ]; exact zeroK32
  have bn : ∀ w, (Instr.build 24 #[]).run Tryd.prog w = .ok (.agg Z) w := by rw [hZ]; exact buildK0
  have c1 := wr_salt hx'
  have c2 := wr_r hx'
  have c3 := wr_key hx'
  have c4 := wr_ck hx'
  have cvs := wrC_size hx'
  have la : (halvesR p x.salt x.r).1.length = 32 := by unfold halvesR; split; rfl; exact half1_length _ _ _
  have lb : (halvesR p x.salt x.r).2.1.length = 32 := by unfold halvesR; split; rfl; exact half2_length _ _ _
  have hcase : ((halvesR p x.salt x.r).2.2 = 1 ∧ unwrapR p x = (z32, 1)) ∨ ((halvesR p x.salt x.r).2.2 = 0 ∧ 0 ≤ x.r ∧ x.r ≤ 100 ∧
      (((ckK (halvesR p x.salt x.r).2.1 x.salt x.r x.key == x.ck) = false ∧ unwrapR p x = (z32, 10)) ∨ ((ckK (halvesR p x.salt x.r).2.1 x.salt x.r x.key == x.ck) = true ∧ unwrapR p x = (turnK (halvesR p x.salt x.r).1 x.key, 0)))) := by
    cases hb : rBad x.r
    · have hr : ¬ (x.r < 1 ∨ 100 < x.r) := fun h => by rw [(rBad_iff x.r).2 h] at hb; cases hb
      have e : halvesR p x.salt x.r = (half1 p x.salt x.r, half2 p x.salt x.r, 0) := by unfold halvesR; rw [hb]; rfl
      rw [e]
      refine .inr ⟨rfl, by omega, by omega, ?_⟩
      simp only
      unfold unwrapR
      rw [hb, if_neg (by decide)]
      by_cases hq : ckK (half2 p x.salt x.r) x.salt x.r x.key = x.ck
      · exact .inr ⟨beq_iff_eq.2 hq, by rw [if_neg (fun h => h hq)]⟩
      · exact .inl ⟨by rw [Bool.eq_false_iff]; exact fun h => hq (beq_iff_eq.1 h), by rw [if_pos hq]⟩
    · exact .inl ⟨by unfold halvesR; rw [if_pos hb], by unfold unwrapR; rw [if_pos hb]⟩
  obtain ⟨ha, hha⟩ : ∃ y, y = (halvesR p x.salt x.r).1 := ⟨_, rfl⟩
  obtain ⟨hb, hhb⟩ : ∃ y, y = (halvesR p x.salt x.r).2.1 := ⟨_, rfl⟩
  obtain ⟨n, hn⟩ : ∃ y, y = (halvesR p x.salt x.r).2.2 := ⟨_, rfl⟩
  rw [← hha, ← hhb, ← hn] at half hcase
  rw [← hha] at la
  rw [← hhb] at lb
  obtain ⟨MA, hMA⟩ : ∃ M, M = (u8s ha).toArray := ⟨_, rfl⟩
  obtain ⟨MB, hMB⟩ : ∃ M, M = (u8s hb).toArray := ⟨_, rfl⟩
  have mas : MA.size = 32 := by rw [hMA]; simp [u8s_length, la]
  have mbs : MB.size = 32 := by rw [hMB]; simp [u8s_length, lb]
  have mao : MA.all (·.oneCell') = true := by rw [hMA]; exact u8s_one _
  have mbo : MB.all (·.oneCell') = true := by rw [hMB]; exact u8s_one _
  have hlf : ∀ wx, Below w.heap.size w wx → Calls Tryd.prog 12 #[v, .agg (u8s x.salt).toArray, .int .i64 x.r] wx fun e w' => e = .returned (.tuple #[.agg MA, .agg MB, .int .i64 n]) ∧ Below wx.heap.size wx w' := fun wx h => by rw [hMA, hMB]; exact half wx h
  clear half hn hha hhb
  have tk := fun wx => rturnK_any ha x.key la hx'.key wx
  have lt := turnK_length ha x.key
  rw [hx'.key] at lt
  obtain ⟨K, hK⟩ : ∃ K, K = turnK ha x.key := ⟨_, rfl⟩
  rw [← hK] at tk lt hcase
  have ck := fun (g0 : 0 ≤ x.r) (g1 : x.r ≤ 100) wx => rcheck_any hb lb x hx' g0 g1 wx
  have lck := ckK_length hb x.salt x.r x.key
  obtain ⟨T, hT⟩ : ∃ T, T = ckK hb x.salt x.r x.key := ⟨_, rfl⟩
  rw [← hT] at ck lck hcase
  have ne := fun (xo yo : Operand) wx => neqDg T x.ck lck hx'.ck xo yo wx
  obtain ⟨MK, hMK⟩ : ∃ M, M = (u8s K).toArray := ⟨_, rfl⟩
  have mks : MK.size = 32 := by rw [hMK]; simp [u8s_length, lt]
  have mko : MK.all (·.oneCell') = true := by rw [hMK]; exact u8s_one _
  obtain ⟨MT, hMT⟩ : ∃ M, M = (u8s T).toArray := ⟨_, rfl⟩
  obtain ⟨MC, hMC⟩ : ∃ M, M = (u8s x.ck).toArray := ⟨_, rfl⟩
  obtain ⟨MX, hMX⟩ : ∃ M, M = (u8s x.key).toArray := ⟨_, rfl⟩
  obtain ⟨CS, hCS⟩ : ∃ M, M = (u8s x.salt).toArray := ⟨_, rfl⟩
  obtain ⟨CV, hCV⟩ : ∃ M, M = wrC x := ⟨_, rfl⟩
  obtain ⟨r, hr⟩ : ∃ r, r = x.r := ⟨_, rfl⟩
  obtain ⟨q, hq⟩ : ∃ q : Bool, q = (T == x.ck) := ⟨_, rfl⟩
  rw [← hq] at ne hcase
  rw [← hMT, ← hMC] at ne
  rw [← hCV] at c1 c2 c3 c4 cvs
  rw [← hCS] at c1 hlf
  rw [← hr] at c2 hlf hcase ck
  rw [← hMX] at c3 tk
  rw [← hMC] at c4
  rw [← hMB, ← hMT, ← hCV] at ck
  rw [← hMA, ← hMK] at tk
  rw [← hCV]
  obtain ⟨PR, hPR⟩ : ∃ PR, PR = unwrapR p x := ⟨_, rfl⟩
  rw [← hPR] at hcase ⊢
  have hcase2 : (n = 1 ∧ (u8s PR.1).toArray = Z ∧ PR.2 = 1) ∨ (n = 0 ∧ 0 ≤ r ∧ r ≤ 100 ∧ ((q = false ∧ (u8s PR.1).toArray = Z ∧ PR.2 = 10) ∨ (q = true ∧ (u8s PR.1).toArray = MK ∧ PR.2 = 0))) := by
    rcases hcase with ⟨h1, h2⟩ | ⟨h1, h2, h3, ⟨h4, h5⟩ | ⟨h4, h5⟩⟩
    · exact .inl ⟨h1, by rw [h2, hZ], by rw [h2]⟩
    · exact .inr ⟨h1, h2, h3, .inl ⟨h4, by rw [h5, hZ], by rw [h5]⟩⟩
    · exact .inr ⟨h1, h2, h3, .inr ⟨h4, by rw [h5, hMK], by rw [h5]⟩⟩
  obtain ⟨w1, hw1⟩ : ∃ w1, w1 = ((w.alloc (.cells CV 34)).alloc (.cells Z 24)) := ⟨_, rfl⟩
  have a0 : At w1 w.heap.size CV 34 := by rw [hw1]; exact (at_new w _ _).alloc _
  have a1 : At w1 (w.heap.size + 1) Z 24 := by
    rw [hw1]
    have h := at_new (w.alloc (.cells CV 34)) Z 24
    simpa using h
  have b1 : Below w.heap.size w w1 := by rw [hw1]; exact ((Below.refl _ _).alloc (Nat.le_refl _) _).alloc (by simp) _
  have ZS := Lib.hid zs; have ZO := Lib.hid zo; have BN := Lib.hid bn; have A0 := Lib.hid a0; have A1 := Lib.hid a1; have B1 := Lib.hid b1; have HALF := Lib.hid hlf; have MAS := Lib.hid mas; have MBS := Lib.hid mbs; have MAO := Lib.hid mao; have MBO := Lib.hid mbo; have TK := Lib.hid tk; have CK := Lib.hid ck; have NE := Lib.hid ne; have MKS := Lib.hid mks; have MKO := Lib.hid mko; have C1 := Lib.hid c1; have C2 := Lib.hid c2; have C3 := Lib.hid c3; have C4 := Lib.hid c4; have CVS := Lib.hid cvs; have HC := Lib.hid hcase2
  clear zs zo bn a0 a1 b1 hlf mas mbs mao mbo tk ck ne mks mko c1 c2 c3 c4 cvs hcase hcase2 hZ hMA hMB hK hT hMK hMT hMC hMX hCS hCV hr hq hPR hp lp la lb lt lck hx'
  go_enter Tryd.func16, Tryd.ntmps16
  go_upto_region 1 with fail
  rw [← hw1]
  clear hw1
  have cr : w1.cell? ⟨w.heap.size, 16, none⟩ = some (.int .i64 r) := (A0.out.cell 16).trans C2.out
  go_wp2_with (refine wpList_load_is (by rfl) 23 _ (by rfl) w.heap.size 0 16 (by rfl) _ Tryd.underlying23 (by rfl) (by kernel_rfl) CV _ A0.out (by rw [CVS.out]; decide) CS C1.out ?_)
  refine (HALF.out w1 B1.out).mono ?_
  rintro e w2 ⟨rfl, hb2⟩
  have HL : Hid (w.heap.size + 1 < w2.heap.size) := Lib.hid (A1.out.below hb2 A1.out.lt).lt
  have X0 := Lib.hid (((A0.out.below hb2 A0.out.lt).alloc (.cells Z 24)).alloc (.cells Z 24)); have X1 := Lib.hid (((A1.out.below hb2 A1.out.lt).alloc (.cells Z 24)).alloc (.cells Z 24))
  have B2 := Lib.hid (B1.out.trans (hb2.mono B1.out.size))
  have A10 : Hid (At ((w2.alloc (.cells Z 24)).alloc (.cells Z 24)) w2.heap.size Z 24) := Lib.hid ((at_new w2 Z _).alloc _)
  have A11 : Hid (At ((w2.alloc (.cells Z 24)).alloc (.cells Z 24)) (w2.heap.size + 1) Z 24) := Lib.hid (by have h := at_new (w2.alloc (.cells Z 24)) Z 24; simpa using h)
  have B3 : Hid (Below w.heap.size w ((w2.alloc (.cells Z 24)).alloc (.cells Z 24))) := Lib.hid ((B2.out.alloc B2.out.size _).alloc (by have := B2.out.size; simp; omega) _)
  clear hb2 A0 A1 B1 B2 HALF cr
  go_upto_region 2 with (first
    | (refine wpList_store_all (by rfl) 24 _ _ (by rfl) (by rfl) w2.heap.size MA (by rfl) (by rfl) (by rw [MAS.out]; exact infoDg) Z _ A10.out (by rw [MAS.out, ZS.out]) MAO.out ?_)
    | (refine wpList_store_all (by rfl) 24 _ _ (by rfl) (by rfl) (w2.heap.size + 1) MB (by rfl) (by rfl) (by rw [MBS.out]; exact infoDg) Z _ (A11.out.row_other MA (by omega)) (by rw [MBS.out, ZS.out]) MBO.out ?_))
  clear hx
  obtain ⟨g, hg⟩ : ∃ g, g = w2.heap.size := ⟨_, rfl⟩
  rw [← hg] at A10 A11 HL ⊢
  have Y0 := Lib.hid ((X0.out.row_other (g := g) MA (by have := HL.out; omega)).row_other (g := g + 1) MB (by have := HL.out; omega)); have Y1 := Lib.hid ((X1.out.row_other (g := g) MA (by have := HL.out; omega)).row_other (g := g + 1) MB (by have := HL.out; omega))
  have Y10 := Lib.hid ((A10.out.row MA).row_other (g := g + 1) MB (by omega)); have Y11 := Lib.hid ((A11.out.row_other (g := g) MA (by omega)).row MB)
  have BQ := Lib.hid (below_row (below_row B3.out (g := g) (by have := HL.out; omega) MA) (g := g + 1) (by have := HL.out; omega) MB)
  clear X0 X1 A10 A11 B3 hg
  generalize ((((w2.alloc (.cells Z 24)).alloc (.cells Z 24)).setRow g MA).setRow (g + 1) MB) = wq at *
  rcases HC.out with ⟨rfl, e1, e2⟩ | ⟨rfl, g0, g1, h2⟩
  · go_wp2_with (first
      | (refine Mem.wpList_build (by rfl) 24 _ #[] (.agg Z) (by rfl) (by simp) BN.out ?_)
      | (refine wpList_store_all (by rfl) 24 _ _ (by rfl) (by rfl) (w.heap.size + 1) Z (by rfl) (by rfl) (by rw [ZS.out]; exact infoDg) Z _ Y1.out (by rfl) ZO.out ?_))
    try simp only [Exit.inBlock, Exit.then]
    refine ret_row_tmp (by rfl) (w.heap.size + 1) 24 Z _ (.int .i64 1) (by rfl) (by rfl) (Y1.out.row Z) Tryd.underlying24 (by rfl) (by rw [ZS.out]; exact infoDg) ?_
    exact ⟨by first | rw [e1, e2] | rw [e1], below_row BQ.out (Nat.le_succ _) Z⟩
  · have CKC := Lib.hid (CK.out g0 g1); have H2 := Lib.hid h2
    clear CK g0 g1 h2
    go_upto_region 4 with fail
    have D0 : Hid (Below wq.heap.size wq wq.drew) := Lib.hid (Below.refl _ _).drew
    have REG : ∀ (q' : Bool), q' = q → True := fun _ _ => trivial
    clear REG
    refine wp_region_plan_in (fun x => Below wq.heap.size wq x) (.take 0 (.take 1 (.take 3 (.take 4 (.sole 2 (.take 5 .done)))))) (by kernel_rfl) (by kernel_rfl) (by kernel_rfl) D0.out ?_
    refine plan_row 24 _ (g + 1) _ MB 24 (by rfl) (by rfl) (by rfl) (by first | (with_reducible exact Mem.ev_const _ _) | (with_reducible exact Mem.ev_zero _ _ _) | (with_reducible (apply Eq.trans (Mem.ev_tmp _ _ _)); simp only [List.getD_cons_succ, List.getD_cons_zero] <;> rfl)) (fun w' hw' => Y11.out.below hw' Y11.out.lt) Tryd.underlying24 (by rfl) (by rw [MBS.out]; exact infoDg) ?_
    (simp only [Act.put, List.setIfInBounds_toArray, List.set_cons_zero, List.set_cons_succ])
    refine plan_row 34 _ w.heap.size _ CV 34 (by rfl) (by rfl) (by rfl) (by first | (with_reducible exact Mem.ev_const _ _) | (with_reducible exact Mem.ev_zero _ _ _) | (with_reducible (apply Eq.trans (Mem.ev_tmp _ _ _)); simp only [List.getD_cons_succ, List.getD_cons_zero] <;> rfl)) (fun w' hw' => Y0.out.below hw' Y0.out.lt) Tryd.underlying34 (by rfl) (by rw [CVS.out]; exact infoWrR) ?_
    (simp only [Act.put, List.setIfInBounds_toArray, List.set_cons_zero, List.set_cons_succ])
    refine plan_field 34 _ 3 w.heap.size 0 ⟨w.heap.size, 49, none⟩ (by rfl) (by rfl) (by rfl) (by first | (with_reducible exact Mem.ev_const _ _) | (with_reducible exact Mem.ev_zero _ _ _) | (with_reducible (apply Eq.trans (Mem.ev_tmp _ _ _)); simp only [List.getD_cons_succ, List.getD_cons_zero] <;> rfl)) (fun wx => by go_simp) ?_
    (simp only [Act.put, List.setIfInBounds_toArray, List.set_cons_zero, List.set_cons_succ])
    refine plan_row_at 24 _ w.heap.size 49 32 _ CV MC 34 (by rfl) (by rfl) (by rfl) (by first | (with_reducible exact Mem.ev_const _ _) | (with_reducible exact Mem.ev_zero _ _ _) | (with_reducible (apply Eq.trans (Mem.ev_tmp _ _ _)); simp only [List.getD_cons_succ, List.getD_cons_zero] <;> rfl)) (fun w' hw' => Y0.out.below hw' Y0.out.lt) Tryd.underlying24 (by rfl) infoDg (by rw [CVS.out]; decide) C4.out ?_
    (simp only [Act.put, List.setIfInBounds_toArray, List.set_cons_zero, List.set_cons_succ])
    refine plan_call 22 _ _ _ (by kernel_rfl) (by rfl) (by rfl) (by rfl) (by first | exact Mem.ev_none _ | (simp only [List.map_toArray, List.map_cons, List.map_nil, Mem.ev_tmp, List.getD_cons_succ, List.getD_cons_zero] <;> rfl)) ?_
    refine (CKC.out _).mono ?_
    rintro o3 w3 ⟨rfl, hb⟩
    have D1 : Hid (Below wq.heap.size wq w3) := Lib.hid (D0.out.trans (hb.mono D0.out.size))
    clear hb
    refine ⟨_, rfl, D1.out, ?_⟩
    (simp only [Act.put, List.setIfInBounds_toArray, List.set_cons_zero, List.set_cons_succ])
    refine plan_bin _ _ _ _ _ _ _ (.bool (!q)) (by rfl) (by rfl) (by rfl) (by first | (with_reducible exact Mem.ev_const _ _) | (with_reducible exact Mem.ev_zero _ _ _) | (with_reducible (apply Eq.trans (Mem.ev_tmp _ _ _)); simp only [List.getD_cons_succ, List.getD_cons_zero] <;> rfl)) (by first | (with_reducible exact Mem.ev_const _ _) | (with_reducible exact Mem.ev_zero _ _ _) | (with_reducible (apply Eq.trans (Mem.ev_tmp _ _ _)); simp only [List.getD_cons_succ, List.getD_cons_zero] <;> rfl)) (fun wx => NE.out _ _ wx) ?_
    (simp only [Act.put, List.setIfInBounds_toArray, List.set_cons_zero, List.set_cons_succ])
    refine plan_nil ?_
    have U0 := Lib.hid (Y0.out.below D1.out Y0.out.lt); have U1 := Lib.hid (Y1.out.below D1.out Y1.out.lt); have U10 := Lib.hid (Y10.out.below D1.out Y10.out.lt); have BU := Lib.hid (BQ.out.trans (D1.out.mono BQ.out.size))
    clear Y0 Y1 Y10 Y11 D0 D1 BQ
    rcases H2.out with ⟨rfl, e1, e2⟩ | ⟨rfl, e1, e2⟩
    · go_wp2_with (first
        | (refine Mem.wpList_build (by rfl) 24 _ #[] (.agg Z) (by rfl) (by simp) BN.out ?_)
        | (refine wpList_store_all (by rfl) 24 _ _ (by rfl) (by rfl) (w.heap.size + 1) Z (by rfl) (by rfl) (by rw [ZS.out]; exact infoDg) Z _ U1.out (by rfl) ZO.out ?_))
      try simp only [Exit.inBlock, Exit.then]
      refine ret_row_tmp (by rfl) (w.heap.size + 1) 24 Z _ (.int .i64 10) (by rfl) (by rfl) (U1.out.row Z) Tryd.underlying24 (by rfl) (by rw [ZS.out]; exact infoDg) ?_
      exact ⟨by first | rw [e1, e2] | rw [e1], below_row BU.out (Nat.le_succ _) Z⟩
    · go_wp2_with (first
        | (refine wpList_load_all (by rfl) 24 _ (by rfl) g (by rfl) _ Tryd.underlying24 (by rfl) MA _ U10.out (by rw [MAS.out]; exact infoDg) ?_)
        | (refine wpList_load_is (by rfl) 24 _ (by rfl) w.heap.size 17 32 (by rfl) _ Tryd.underlying24 (by rfl) (by kernel_rfl) CV _ U0.out (by rw [CVS.out]; decide) MX C3.out ?_))
      refine (TK.out w3).mono ?_
      rintro e w4 ⟨rfl, hb⟩
      have U14 := Lib.hid (U1.out.below hb U1.out.lt); have BU4 := Lib.hid (BU.out.trans (hb.mono BU.out.size))
      clear hb U1 BU U0 U10
      go_wp2_with (refine wpList_store_all (by rfl) 24 _ _ (by rfl) (by rfl) (w.heap.size + 1) MK (by rfl) (by rfl) (by rw [MKS.out]; exact infoDg) Z _ U14.out (by rw [MKS.out, ZS.out]) MKO.out ?_)
      try simp only [Exit.inBlock, Exit.then]
      refine ret_row_tmp (by rfl) (w.heap.size + 1) 24 MK _ (.int .i64 0) (by rfl) (by rfl) (U14.out.row MK) Tryd.underlying24 (by rfl) (by rw [MKS.out]; exact infoDg) ?_
      exact ⟨by first | rw [e1, e2] | rw [e1], below_row BU4.out (Nat.le_succ _) MK⟩
end Sha
end Go.Proofs.YtjadjidjfkahpaaDoor
namespace Go.Proofs.YtjadjidjfkahpaaDoor
namespace Sha
open Go.RowKit Mem
set_option maxRecDepth 100000
/-- What the program must keep. T: what the calls ask of the world (its laid tables). -/
structure WrapP (T : World → Prop) : Prop where
  below : ∀ {w w' : World}, T w → Below w.heap.size w w' → T w'
  halves : ∀ (p s : List (BitVec 8)) (r : Int) (v : Value) (w : World), s.length = 16 → -9223372036854775808 ≤ r → r ≤ 9223372036854775807 → Sl w v p → p.length ≤ 1000 → T w →
    Calls Tryd.prog 11 #[v, .agg (u8s s).toArray, .int .i64 r] w (HalfEnd w (halvesR p s r).1 (halvesR p s r).2.1 (halvesR p s r).2.2)
  wrap : ∀ (p s : List (BitVec 8)) (r : Int) (m : List (BitVec 8)) (v : Value) (w : World), s.length = 16 → m.length = 32 → -9223372036854775808 ≤ r → r ≤ 9223372036854775807 → Sl w v p → p.length ≤ 1000 → T w →
    Calls Tryd.prog 9 #[v, .agg (u8s s).toArray, .int .i64 r, .agg (u8s m).toArray] w (WrapEnd w (wrapR p s r m).1 (wrapR p s r m).2)
  unwrap : ∀ (p : List (BitVec 8)) (x : WrV) (v : Value) (w : World), x.Wf → Sl w v p → p.length ≤ 1000 → T w → Calls Tryd.prog 14 #[v, .agg (wrC x)] w (KeyEnd w (unwrapR p x).1 (unwrapR p x).2)
  again : ∀ (old p s : List (BitVec 8)) (x : WrV) (vo v : Value) (w : World), s.length = 16 → x.Wf → Sl w vo old → Sl w v p → old.length ≤ 1000 → p.length ≤ 1000 → T w →
    Calls Tryd.prog 17 #[vo, v, .agg (u8s s).toArray, .agg (wrC x)] w (WrapEnd w (againR old p s x).1 (againR old p s x).2)
def S1 : List (BitVec 8) := 1 :: List.replicate 15 0
def M9 : List (BitVec 8) := 9 :: List.replicate 31 0
theorem S1_length : S1.length = 16 := rfl
theorem M9_length : M9.length = 32 := rfl
theorem build_S1 (w : World) : (Instr.build 23 #[(0, .int .u8 1)]).run Tryd.prog w = .ok (.agg (u8s S1).toArray) w := by kernel_rfl
theorem build_M9 (w : World) : (Instr.build 24 #[(0, .int .u8 9)]).run Tryd.prog w = .ok (.agg (u8s M9).toArray) w := by kernel_rfl
theorem sl_litw (w : World) (x : BitVec 8) : Sl (w.alloc (.cells #[.int .u8 (x.toNat : Int)] 5 (1, 2))) (.slice (some ⟨w.heap.size, 0, none⟩) 1 1) [x] := by
  refine ⟨_, _, rfl, by simp, fun _ => ⟨_, _, rfl, by simp, fun i hi => ?_⟩⟩
  match i, hi with
  | 0, _ => exact cell_of_row _ _ _ _ _ _ (heap_alloc_new w _)
set_option maxHeartbeats 1000000 in
theorem ours10_any (x : WrV) (hx' : x.Wf) (w : World) : Calls Tryd.prog 13 #[.agg (wrC x)] w fun e w' => e = .returned (.agg (wrC x)) ∧ Below w.heap.size w w' := by
  have rs := wrC_size hx'
  have ro := wrC_one x
  obtain ⟨M, hM⟩ : ∃ M, M = wrC x := ⟨_, rfl⟩
  rw [← hM] at rs ro ⊢
  obtain ⟨Z, hZ⟩ : ∃ Z, Z = wrC zwr := ⟨_, rfl⟩
  have zs : Z.size = 81 := by rw [hZ]; exact wrC_size zwr_wf
  have hx : ∀ w, (zeroValue 34).run Tryd.prog w = .ok (.agg Z) w := by rw [hZ]; exact zeroWrR
  have a1 := (at_new w M 30).alloc (.cells Z 34)
  have a2 : At ((w.alloc (.cells M 30)).alloc (.cells Z 34)) (w.heap.size + 1) Z 34 := by
    have h := at_new (w.alloc (.cells M 30)) Z 34
    simpa using h
  have bz : Below w.heap.size w ((w.alloc (.cells M 30)).alloc (.cells Z 34)) := ((Below.refl _ _).alloc (Nat.le_refl _) _).alloc (by simp) _
  have RS := Lib.hid rs; have RO := Lib.hid ro; have ZS := Lib.hid zs; have A1 := Lib.hid a1; have A2 := Lib.hid a2; have BZ := Lib.hid bz
  clear rs ro zs a1 a2 bz hM hZ hx'
  go_enter Tryd.func13, Tryd.ntmps13
  go_upto_region 1 with fail
  clear hx
  generalize (w.alloc (.cells M 30)).alloc (.cells Z 34) = w1 at *
  go_wp2_with (first
    | (refine wpList_load_all (by rfl) 30 _ (by rfl) w.heap.size (by rfl) _ Tryd.underlying30 (by rfl) M _ A1.out (by rw [RS.out]; exact infoWrP) ?_)
    | (refine wpList_store_all (by rfl) 34 _ _ (by rfl) (by rfl) (w.heap.size + 1) M (by rfl) (by rfl) (by rw [RS.out]; exact infoWrR) Z 34 A2.out (by rw [ZS.out, RS.out]) RO.out ?_))
  try simp only [Exit.inBlock, Exit.then]
  refine ret_row (by rfl) (w.heap.size + 1) 34 M _ (by rfl) (At.row (C := Z) A2.out M) Tryd.underlying34 (by rfl) (by rw [RS.out]; exact infoWrR) ?_
  exact ⟨rfl, below_row BZ.out (Nat.le_succ _) M⟩
set_option maxHeartbeats 1000000 in
theorem theirs10_any (x : WrV) (hx' : x.Wf) (w : World) : Calls Tryd.prog 15 #[.agg (wrC x)] w fun e w' => e = .returned (.agg (wrC x)) ∧ Below w.heap.size w w' := by
  have rs := wrC_size hx'
  have ro := wrC_one x
  obtain ⟨M, hM⟩ : ∃ M, M = wrC x := ⟨_, rfl⟩
  rw [← hM] at rs ro ⊢
  obtain ⟨Z, hZ⟩ : ∃ Z, Z = wrC zwr := ⟨_, rfl⟩
  have zs : Z.size = 81 := by rw [hZ]; exact wrC_size zwr_wf
  have hx : ∀ w, (zeroValue 30).run Tryd.prog w = .ok (.agg Z) w := by rw [hZ]; exact zeroWrP
  have a1 := (at_new w M 34).alloc (.cells Z 30)
  have a2 : At ((w.alloc (.cells M 34)).alloc (.cells Z 30)) (w.heap.size + 1) Z 30 := by
    have h := at_new (w.alloc (.cells M 34)) Z 30
    simpa using h
  have bz : Below w.heap.size w ((w.alloc (.cells M 34)).alloc (.cells Z 30)) := ((Below.refl _ _).alloc (Nat.le_refl _) _).alloc (by simp) _
  have RS := Lib.hid rs; have RO := Lib.hid ro; have ZS := Lib.hid zs; have A1 := Lib.hid a1; have A2 := Lib.hid a2; have BZ := Lib.hid bz
  clear rs ro zs a1 a2 bz hM hZ hx'
  go_enter Tryd.func15, Tryd.ntmps15
  go_upto_region 1 with fail
  clear hx
  generalize (w.alloc (.cells M 34)).alloc (.cells Z 30) = w1 at *
  go_wp2_with (first
    | (refine wpList_load_all (by rfl) 34 _ (by rfl) w.heap.size (by rfl) _ Tryd.underlying34 (by rfl) M _ A1.out (by rw [RS.out]; exact infoWrR) ?_)
    | (refine wpList_store_all (by rfl) 30 _ _ (by rfl) (by rfl) (w.heap.size + 1) M (by rfl) (by rfl) (by rw [RS.out]; exact infoWrP) Z 30 A2.out (by rw [ZS.out, RS.out]) RO.out ?_))
  try simp only [Exit.inBlock, Exit.then]
  refine ret_row (by rfl) (w.heap.size + 1) 30 M _ (by rfl) (At.row (C := Z) A2.out M) Tryd.underlying30 (by rfl) (by rw [RS.out]; exact infoWrP) ?_
  exact ⟨rfl, below_row BZ.out (Nat.le_succ _) M⟩
/-- What a key is wrapped with: the passphrase as a slice, the rest as cells. -/
def askW (v : Value) (s : List (BitVec 8)) (r : Int) (m : List (BitVec 8)) : Array Value := (([v] : List Value) ++ (u8s s ++ (([.int .i64 r] : List Value) ++ u8s m))).toArray
theorem askW_size (v : Value) (s : List (BitVec 8)) (r : Int) (m : List (BitVec 8)) (hs : s.length = 16) (hm : m.length = 32) : (askW v s r m).size = 50 := by simp [askW, u8s_length, hs, hm]
theorem askW_0 (v : Value) (s : List (BitVec 8)) (r : Int) (m : List (BitVec 8)) : (askW v s r m)[0]? = some v := rfl
theorem askW_r (v : Value) (s : List (BitVec 8)) (r : Int) (m : List (BitVec 8)) (hs : s.length = 16) : (askW v s r m)[17]? = some (.int .i64 r) := by
  have e := u8s_length s
  rw [hs] at e
  simp only [askW, List.getElem?_toArray]
  rw [List.getElem?_append_right (by show 1 ≤ 17; decide), List.getElem?_append_right (by rw [e]; show 16 ≤ 17 - 1; decide), e]; rfl
theorem askW_salt (v : Value) (s : List (BitVec 8)) (r : Int) (m : List (BitVec 8)) (hs : s.length = 16) : (askW v s r m).extract 1 (1 + 16) = (u8s s).toArray := by
  apply Array.ext'
  have e := u8s_length s
  rw [hs] at e
  simp only [askW, Array.toList_extract, List.extract_eq_take_drop]
  show ((u8s s ++ (([.int .i64 r] : List Value) ++ u8s m)).take (1 + 16 - 1)) = u8s s
  rw [List.take_append_of_le_length (by omega), List.take_of_length_le (by omega)]
theorem askW_m (v : Value) (s : List (BitVec 8)) (r : Int) (m : List (BitVec 8)) (hs : s.length = 16) (hm : m.length = 32) : (askW v s r m).extract 18 (18 + 32) = (u8s m).toArray := by
  apply Array.ext'
  have e := u8s_length s
  have e2 := u8s_length m
  rw [hs] at e
  rw [hm] at e2
  simp only [askW, Array.toList_extract, List.extract_eq_take_drop]
  have e3 : (([v] : List Value) ++ (u8s s ++ (([.int .i64 r] : List Value) ++ u8s m))).drop 18 = u8s m := by
    show (u8s s ++ (([.int .i64 r] : List Value) ++ u8s m)).drop 17 = _
    rw [show (17 : Nat) = (u8s s).length + 1 by omega, List.drop_append, List.drop_eq_nil_of_le (by omega), show (u8s s).length + 1 - (u8s s).length = 1 by omega]; rfl
  rw [e3, List.take_of_length_le (by omega)]
theorem build_askW (a : Option Addr) (n c : Nat) (r : Int) (w : World) : (Instr.build 26 #[(0, .slice a n c), (2, .int .i64 r)]).run Tryd.prog w = .ok (.agg (askW (.slice a n c) z16 r z32)) w := run_build w _ _ _ (by kernel_rfl)
theorem infoAskW : (Tryd.prog.info? 26).map (·.size) = some 50 := by kernel_rfl
def farW (n : Nat) (r : Int) : Bool := decide (200 < n ∨ (5 < r ∧ r ≤ 100))
set_option maxHeartbeats 1000000 in
theorem far10_any (a : Option Addr) (n c : Nat) (s : List (BitVec 8)) (r : Int) (m : List (BitVec 8)) (hs : s.length = 16) (w : World) : Calls Tryd.prog 7 #[.agg (askW (.slice a n c) s r m)] w fun e w' => e = .returned (.bool (farW n r)) ∧ Below w.heap.size w w' := by
  have c0 : (w.alloc (.cells (askW (.slice a n c) s r m) 26)).cell? ⟨w.heap.size, 0, none⟩ = some (.slice a n c) := ((at_new w _ 26).cell 0).trans (askW_0 _ _ _ _)
  have c17 : (w.alloc (.cells (askW (.slice a n c) s r m) 26)).cell? ⟨w.heap.size, 17, none⟩ = some (.int .i64 r) := ((at_new w _ 26).cell 17).trans (askW_r _ _ _ _ hs)
  have b1 : Below w.heap.size w (w.alloc (.cells (askW (.slice a n c) s r m) 26)) := (Below.refl _ _).alloc (Nat.le_refl _) _
  obtain ⟨AA, hAA⟩ : ∃ C, C = askW (.slice a n c) s r m := ⟨_, rfl⟩
  rw [← hAA] at c0 c17 b1 ⊢
  have B1 := Lib.hid b1
  clear b1 hAA hs
  by_cases g1 : 200 < n
  · have e : farW n r = true := by simp [farW, g1]
    rw [e]
    have g1' : (200 : Int) < (n : Int) := by omega
    clear e
    go_enter Tryd.func7, Tryd.ntmps7
    go_wp2_with fail
    go_ret
    exact ⟨rfl, B1.out⟩
  · have g1' : ¬ (200 : Int) < (n : Int) := by omega
    by_cases g2 : 5 < r
    · by_cases g3 : r ≤ 100
      · have e : farW n r = true := by simp [farW, g2, g3]
        rw [e]
        clear e
        go_enter Tryd.func7, Tryd.ntmps7
        go_wp2_with fail
        go_ret
        exact ⟨rfl, B1.out⟩
      · have e : farW n r = false := by simp [farW, g1, g3]
        rw [e]
        clear e
        go_enter Tryd.func7, Tryd.ntmps7
        go_wp2_with fail
        go_ret
        exact ⟨rfl, B1.out⟩
    · have e : farW n r = false := by simp [farW, g1, g2]
      rw [e]
      clear e
      go_enter Tryd.func7, Tryd.ntmps7
      go_wp2_with fail
      go_ret
      exact ⟨rfl, B1.out⟩
end Sha
end Go.Proofs.YtjadjidjfkahpaaDoor
namespace Go.Proofs.YtjadjidjfkahpaaDoor
namespace Sha
open Go.RowKit Mem
set_option maxRecDepth 100000
theorem convW (w : World) (x : Int) (n c : Nat) : (convert 22 22 (.slice (some ⟨w.heap.size, 0, none⟩) n c)).run Tryd.prog (w.alloc (.cells #[.int .u8 x] 5)) = .ok (.slice (some ⟨w.heap.size, 0, none⟩) n c) (w.alloc (.cells #[.int .u8 x] 5 (1, 2))) :=
  Lib.run_convert_bytes_const (P := Tryd.prog) w 22 5 #[.int .u8 x] n c Tryd.underlying22 Tryd.underlying5
theorem halves_zero : halvesR [] z16 0 = (z32, z32, 1) := rfl
theorem wrap_live : wrapR [112] S1 2 M9 = (wrapV [112] S1 2 M9, 0) := rfl
set_option maxHeartbeats 4000000 in
theorem alive10_any {T : World → Prop} (P : WrapP T) (w : World) (hT : T w) : Calls Tryd.prog 8 #[] w fun e w' => e = .returned (.bool true) ∧ Below w.heap.size w w' := by
  have hw := fun v wx (h : Sl wx v [112]) (ht : T wx) => P.wrap [112] S1 2 M9 v wx S1_length M9_length (by decide) (by decide) h (by decide) ht
  rw [wrap_live] at hw
  have wf := wrapV_wf [112] S1 2 M9 S1_length M9_length (by decide) (by decide)
  have hu := fun v wx (h : Sl wx v [112]) (ht : T wx) => P.unwrap [112] (wrapV [112] S1 2 M9) v wx wf h (by decide) ht
  rw [unwrap_wrap _ _ _ _ (by decide)] at hu
  have hh := fun wx (ht : T wx) => P.halves [] z16 0 (.slice none 0 0) wx rfl (by decide) (by decide) (sl_none wx) (by decide) ht
  rw [halves_zero] at hh
  have hb := fun {wx wy : World} (h : T wx) (b : Below wx.heap.size wx wy) => P.below h b
  obtain ⟨x, hxx⟩ : ∃ x, x = wrapV [112] S1 2 M9 := ⟨_, rfl⟩
  rw [← hxx] at hw hu wf
  have x2 : x.r = 2 := by rw [hxx]; rfl
  have c16 := wr_r wf
  rw [x2] at c16
  obtain ⟨CW, hCW⟩ : ∃ C, C = wrC x := ⟨_, rfl⟩
  have cws : CW.size = 81 := by rw [hCW]; exact wrC_size wf
  have cwo : CW.all (·.oneCell') = true := by rw [hCW]; exact wrC_one _
  obtain ⟨ZW, hZW⟩ : ∃ Z, Z = wrC zwr := ⟨_, rfl⟩
  have zws : ZW.size = 81 := by rw [hZW]; exact wrC_size zwr_wf
  have hxw : ∀ w, (zeroValue 30).run Tryd.prog w = .ok (.agg ZW) w := by rw [hZW]; exact zeroWrP
  obtain ⟨Z, hZ⟩ : ∃ Z, Z = (u8s z32).toArray := ⟨_, rfl⟩
  have zs : Z.size = 32 := by rw [hZ]; simp [z32, u8s_length]
  have zo : Z.all (·.oneCell') = true := by rw [hZ]; exact u8s_one _
  have hx : ∀ w, (zeroValue 24).run Tryd.prog w = .ok (.agg Z) w := by rw [hZ]; exact zeroK32
  have bs := build_S1
  have bm := build_M9
  have bz := buildS0
  have eq := fun xo yo wx => eqlDg M9 M9 M9_length M9_length xo yo wx
  rw [show (M9 == M9) = true by simp] at eq
  obtain ⟨PS, hPS⟩ : ∃ C, C = (u8s S1).toArray := ⟨_, rfl⟩
  obtain ⟨PM, hPM⟩ : ∃ C, C = (u8s M9).toArray := ⟨_, rfl⟩
  obtain ⟨PZ, hPZ⟩ : ∃ C, C = (u8s z16).toArray := ⟨_, rfl⟩
  have pms : PM.size = 32 := by rw [hPM]; simp [u8s_length, M9_length]
  have pmo : PM.all (·.oneCell') = true := by rw [hPM]; exact u8s_one _
  rw [← hPS] at bs
  rw [← hPM] at bm eq
  rw [← hPZ] at bz
  rw [← hCW] at c16
  have hw2 : ∀ v wx, Sl wx v [112] → T wx → Calls Tryd.prog 9 #[v, .agg PS, .int .i64 2, .agg PM] wx fun e w' => e = .returned (.tuple #[.agg CW, .int .i64 0]) ∧ Below wx.heap.size wx w' := fun v wx h ht => by rw [hPS, hPM, hCW]; exact hw v wx h ht
  have hu2 : ∀ v wx, Sl wx v [112] → T wx → Calls Tryd.prog 14 #[v, .agg CW] wx fun e w' => e = .returned (.tuple #[.agg PM, .int .i64 0]) ∧ Below wx.heap.size wx w' := fun v wx h ht => by rw [hPM, hCW]; exact hu v wx h ht
  have hh2 : ∀ wx, T wx → Calls Tryd.prog 11 #[.slice none 0 0, .agg PZ, .int .i64 0] wx fun e w' => e = .returned (.tuple #[.agg Z, .agg Z, .int .i64 1]) ∧ Below wx.heap.size wx w' := fun wx ht => by rw [hPZ, hZ]; exact hh wx ht
  have HW := Lib.hid hw2; have HU := Lib.hid hu2; have HH := Lib.hid hh2; have HT := Lib.hid hT; have C16 := Lib.hid c16; have CWS := Lib.hid cws; have CWO := Lib.hid cwo; have ZWS := Lib.hid zws; have ZS := Lib.hid zs; have ZO := Lib.hid zo; have BS := Lib.hid bs; have BM := Lib.hid bm; have BZ := Lib.hid bz; have EQ := Lib.hid eq; have PMS := Lib.hid pms; have PMO := Lib.hid pmo
  clear hw hw2 hu hu2 hh hh2 hT c16 cws cwo zws zs zo bs bm bz eq pms pmo hCW hZW hZ hPS hPM hPZ x2 hxx wf
  have s1 := sl_litw w 112
  have b1 : Below w.heap.size w (w.alloc (.cells #[.int .u8 112] 5 (1, 2))) := (Below.refl _ _).alloc (Nat.le_refl _) _
  have S1 := Lib.hid s1; have B1 := Lib.hid b1
  clear s1 b1
  have c1 := convW w 112
  go_enter Tryd.func8, Tryd.ntmps8
  go_wp2_with (first
    | (refine Mem.wpList_build (by rfl) 23 _ #[(0, .int .u8 1)] (.agg PS) (by rfl) (by first | rfl | simp [Act.eval]) BS.out ?_)
    | (refine Mem.wpList_build (by rfl) 24 _ #[(0, .int .u8 9)] (.agg PM) (by rfl) (by first | rfl | simp [Act.eval]) BM.out ?_))
  clear c1
  refine (HW.out _ _ S1.out (hb HT.out B1.out)).mono ?_
  rintro e w2 ⟨rfl, hb2⟩
  have A3 := Lib.hid (at_new w2 CW 30); have b2 := B1.out.trans (hb2.mono B1.out.size)
  have B3 : Hid (Below w.heap.size w (w2.alloc (.cells CW 30))) := Lib.hid (b2.alloc b2.size _)
  clear hb2 b2 B1 S1
  go_upto_region 2 with (refine wpList_store_new (by rfl) 30 _ _ (by rfl) (by rfl) CW _ _ (by rfl) (by rfl) (by rw [CWS.out]; exact infoWrP) (by rw [CWS.out, ZWS.out]) CWO.out ?_)
  clear hxw
  obtain ⟨g, hg⟩ : ∃ g, g = w2.heap.size := ⟨_, rfl⟩
  rw [← hg] at A3 ⊢
  clear hg
  generalize w2.alloc (.cells CW 30) = w3 at *
  have c1 := convW w3 112
  have S3 := Lib.hid (sl_litw w3 112); have A4 := Lib.hid (A3.out.alloc (.cells #[.int .u8 112] 5 (1, 2)))
  have G3 : Hid (Below w3.heap.size w3 (w3.alloc (.cells #[.int .u8 112] 5 (1, 2)))) := Lib.hid ((Below.refl _ _).alloc (Nat.le_refl _) _)
  have B4 : Hid (Below w.heap.size w (w3.alloc (.cells #[.int .u8 112] 5 (1, 2)))) := Lib.hid (B3.out.alloc B3.out.size _)
  go_wp2_with (refine wpList_load_all (by rfl) 30 _ (by rfl) g (by rfl) _ Tryd.underlying30 (by rfl) CW _ A4.out (by rw [CWS.out]; exact infoWrP) ?_)
  clear c1
  refine (HU.out _ _ S3.out (hb HT.out B4.out)).mono ?_
  rintro e w5 ⟨rfl, hb5⟩
  have A6 := Lib.hid ((A4.out.below hb5 A4.out.lt).alloc (.cells PM 24)); have b5 := B4.out.trans (hb5.mono B4.out.size)
  have B6 : Hid (Below w.heap.size w (w5.alloc (.cells PM 24))) := Lib.hid (b5.alloc b5.size _)
  have K6 := Lib.hid (at_new w5 PM 24)
  have hz := hx
  have HZ := Lib.hid hz
  clear hb5 b5 B4 A4 S3 G3 B3 A3 hz
  go_upto_region 3 with (refine wpList_store_new (by rfl) 24 _ _ (by rfl) (by rfl) PM _ _ (by rfl) (by rfl) (by rw [PMS.out]; exact infoDg) (by rw [PMS.out, ZS.out]) PMO.out ?_)
  clear hx
  obtain ⟨k, hk⟩ : ∃ k, k = w5.heap.size := ⟨_, rfl⟩
  rw [← hk] at K6 ⊢
  clear hk
  generalize w5.alloc (.cells PM 24) = w6 at *
  go_wp2_with (refine Mem.wpList_build (by rfl) 23 _ #[] (.agg PZ) (by rfl) (by first | rfl | simp [Act.eval]) BZ.out ?_)
  refine (HH.out w6 (hb HT.out B6.out)).mono ?_
  rintro e w7 ⟨rfl, hb7⟩
  have b7 := B6.out.trans (hb7.mono B6.out.size)
  have A8 := Lib.hid (((A6.out.below hb7 A6.out.lt).alloc (.cells Z 24)).alloc (.cells Z 24)); have K8 := Lib.hid (((K6.out.below hb7 K6.out.lt).alloc (.cells Z 24)).alloc (.cells Z 24))
  have B8 : Hid (Below w.heap.size w ((w7.alloc (.cells Z 24)).alloc (.cells Z 24))) := Lib.hid ((b7.alloc b7.size _).alloc (by have := b7.size; simp; omega) _)
  have M10 : Hid (At ((w7.alloc (.cells Z 24)).alloc (.cells Z 24)) w7.heap.size Z 24) := Lib.hid ((at_new w7 Z _).alloc _)
  have M11 : Hid (At ((w7.alloc (.cells Z 24)).alloc (.cells Z 24)) (w7.heap.size + 1) Z 24) := Lib.hid (by have h := at_new (w7.alloc (.cells Z 24)) Z 24; simpa using h)
  have L8 : Hid (g < w7.heap.size ∧ k < w7.heap.size ∧ w.heap.size ≤ w7.heap.size) := Lib.hid ⟨(A6.out.below hb7 A6.out.lt).lt, (K6.out.below hb7 K6.out.lt).lt, b7.size⟩
  clear hb7 b7 A6 K6 B6
  have hx := HZ.out
  go_upto_region 4 with (first
    | (refine wpList_store_all (by rfl) 24 _ _ (by rfl) (by rfl) w7.heap.size Z (by rfl) (by rfl) (by rw [ZS.out]; exact infoDg) Z _ M10.out (by rfl) ZO.out ?_)
    | (refine wpList_store_all (by rfl) 24 _ _ (by rfl) (by rfl) (w7.heap.size + 1) Z (by rfl) (by rfl) (by rw [ZS.out]; exact infoDg) Z _ (M11.out.row_other Z (by omega)) (by rfl) ZO.out ?_))
  clear hx
  obtain ⟨q, hq⟩ : ∃ q, q = w7.heap.size := ⟨_, rfl⟩
  rw [← hq] at M10 M11 L8 ⊢
  have A9 := Lib.hid ((A8.out.row_other (g := q) Z (by have := L8.out; omega)).row_other (g := q + 1) Z (by have := L8.out; omega)); have K9 := Lib.hid ((K8.out.row_other (g := q) Z (by have := L8.out; omega)).row_other (g := q + 1) Z (by have := L8.out; omega))
  have B9 := Lib.hid (below_row (below_row B8.out (g := q) (by have := L8.out; omega) Z) (g := q + 1) (by have := L8.out; omega) Z)
  clear A8 K8 B8 M10 M11 hq
  generalize (((w7.alloc (.cells Z 24)).alloc (.cells Z 24)).setRow q Z).setRow (q + 1) Z = w9 at *
  have cr : w9.cell? ⟨g, 16, none⟩ = some (.int .i64 2) := (A9.out.cell 16).trans C16.out
  go_wp2_with (first
    | (refine wpList_load_wanted (by rfl) 24 _ (by rfl) k (by rfl) _ Tryd.underlying24 (by rfl) PM _ K9.out (by rw [PMS.out]; exact infoDg) ?_)
    | (refine Mem.wpList_build (by rfl) 24 _ #[(0, .int .u8 9)] (.agg PM) (by rfl) (by first | rfl | simp [Act.eval]) BM.out ?_)
    | (refine wpList_bin (by rfl) .eql 24 24 _ _ (.agg PM) (.agg PM) (.bool true) (by rfl) (by rfl) (by rfl) (fun wx => EQ.out _ _ wx) ?_))
  go_ret
  exact ⟨rfl, B9.out⟩
end Sha
end Go.Proofs.YtjadjidjfkahpaaDoor
namespace Go.Proofs.YtjadjidjfkahpaaDoor
namespace Sha
/-- A number's byte, its lowest so many bytes; the number of some bytes. -/
def nbyte (m i : Nat) : BitVec 8 := BitVec.ofNat 8 (m / 256 ^ i)
def nbytes (m k : Nat) : List (BitVec 8) := (List.range k).map (nbyte m)
def leN : List (BitVec 8) → Nat
  | [] => 0
  | x :: l => x.toNat + 256 * leN l
theorem nbytes_length (m k : Nat) : (nbytes m k).length = k := by simp [nbytes]
theorem nbytes_succ (m k : Nat) : nbytes m (k + 1) = nbytes m k ++ [nbyte m k] := by simp [nbytes, List.range_succ]
theorem nbytes_cons (m k : Nat) : nbytes m (k + 1) = nbyte m 0 :: nbytes (m / 256) k := by
  have h : ∀ i, nbyte m (i + 1) = nbyte (m / 256) i := fun i => by
    unfold nbyte
    rw [Nat.pow_succ, Nat.mul_comm, Nat.div_div_eq_div_mul]
  simp [nbytes, List.range_succ_eq_map, Function.comp_def, h]
theorem leN_nbytes : ∀ (k m : Nat), leN (nbytes m k) = m % 256 ^ k
  | 0, m => by simp [nbytes, leN, Nat.mod_one]
  | k + 1, m => by
    rw [nbytes_cons, leN, leN_nbytes k (m / 256)]
    have h1 : (nbyte m 0).toNat = m % 256 := by simp [nbyte]
    rw [h1, Nat.pow_succ, Nat.mul_comm (256 ^ k) 256, Nat.mod_mul]
theorem leN_lt : ∀ l : List (BitVec 8), leN l < 256 ^ l.length
  | [] => by simp [leN]
  | x :: l => by
    have h := leN_lt l
    have hx := x.isLt
    rw [leN, List.length_cons, Nat.pow_succ]
    omega
theorem leN_64 (l : List (BitVec 8)) (h : l.length ≤ 8) : leN l < 18446744073709551616 := by
  have h1 := leN_lt l
  have h2 : 256 ^ l.length ≤ 256 ^ 8 := Nat.pow_le_pow_right (by decide) h
  have h3 : (256 ^ 8 : Nat) = 18446744073709551616 := by decide
  omega
theorem leN_drop (l : List (BitVec 8)) (i : Nat) (h : i < l.length) : leN (l.drop i) = (l.getD i 0).toNat + 256 * leN (l.drop (i + 1)) := by
  rw [List.drop_eq_getElem_cons h, leN]
  simp [h]
theorem nbytes_leN : ∀ l : List (BitVec 8), nbytes (leN l) l.length = l
  | [] => rfl
  | x :: l => by
    have hx := x.isLt
    rw [List.length_cons, nbytes_cons, leN]
    have h1 : (x.toNat + 256 * leN l) / 256 = leN l := by omega
    have h2 : nbyte (x.toNat + 256 * leN l) 0 = x := by
      apply BitVec.eq_of_toNat_eq
      simp [nbyte]; omega
    rw [h1, h2, nbytes_leN l]
/-- A number from one to another one. -/
def cutN (z : Int) (lo hi : Nat) : Nat := (min (max z (lo : Int)) (hi : Int)).toNat
theorem cutN_val (z : Int) (lo hi : Nat) (_h : lo ≤ hi) : ((cutN z lo hi : Nat) : Int) = min (max z (lo : Int)) (hi : Int) := by unfold cutN; omega
theorem cutN_lo (z : Int) (lo hi : Nat) (h : lo ≤ hi) : lo ≤ cutN z lo hi := by unfold cutN; omega
theorem cutN_hi (z : Int) (lo hi : Nat) : cutN z lo hi ≤ hi := by unfold cutN; omega
theorem cutN_in (n lo hi : Nat) (h0 : lo ≤ n) (h1 : n ≤ hi) : cutN (n : Int) lo hi = n := by unfold cutN; omega
/-- A text in its place. -/
def textB (s : List (BitVec 8)) (place : Nat) : List (BitVec 8) := BitVec.ofNat 8 s.length :: s ++ List.replicate (place - s.length) 0
theorem textB_length (s : List (BitVec 8)) (place : Nat) (h : s.length ≤ place) : (textB s place).length = place + 1 := by simp [textB]; omega
def allZ (l : List (BitVec 8)) : Bool := l.all (· == 0)
/-- What a reader takes: the bytes, those that are left, its error. -/
structure Rd3 where
  x : List (BitVec 8)
  b : List (BitVec 8)
  e : Nat
def rdTake (b : List (BitVec 8)) (e n : Nat) : Rd3 := if e ≠ 0 then ⟨[], b, e⟩ else if b.length < n then ⟨[], b, 4⟩ else ⟨b.take n, b.drop n, 0⟩
def rdNum (b : List (BitVec 8)) (e : Nat) (k most : Nat) : Nat × List (BitVec 8) × Nat :=
  if (rdTake b e k).e ≠ 0 then (0, (rdTake b e k).b, (rdTake b e k).e) else if most < leN (rdTake b e k).x then (0, (rdTake b e k).b, 3) else (leN (rdTake b e k).x, (rdTake b e k).b, 0)
def rdText (b : List (BitVec 8)) (e : Nat) (p : Nat) : Rd3 :=
  if (rdTake b e (p + 1)).e ≠ 0 then ⟨[], (rdTake b e (p + 1)).b, (rdTake b e (p + 1)).e⟩
  else if p < ((rdTake b e (p + 1)).x.getD 0 0).toNat ∨ allZ ((rdTake b e (p + 1)).x.drop (1 + ((rdTake b e (p + 1)).x.getD 0 0).toNat)) = false then ⟨[], (rdTake b e (p + 1)).b, 3⟩
  else ⟨((rdTake b e (p + 1)).x.drop 1).take ((rdTake b e (p + 1)).x.getD 0 0).toNat, (rdTake b e (p + 1)).b, 0⟩
def rdRest (b : List (BitVec 8)) (e : Nat) : Nat := if e = 0 ∧ allZ b = false then 3 else e
def rdLeft (b : List (BitVec 8)) (e : Nat) : Nat := if e ≠ 0 then 0 else b.length
theorem rdTake_len (b : List (BitVec 8)) (e n : Nat) (h : (rdTake b e n).e = 0) : (rdTake b e n).x.length = n ∧ e = 0 ∧ n ≤ b.length := by
  unfold rdTake at *
  split at h <;> rename_i h1
  · exact absurd h h1
  · split at h <;> rename_i h2
    · simp at h
    · rw [if_neg h1, if_neg h2]
      exact ⟨by simp; omega, by omega, by omega⟩
theorem rdTake_err (b : List (BitVec 8)) (e n : Nat) (h : (rdTake b e n).e ≠ 0) : (rdTake b e n).x = [] ∧ (rdTake b e n).b = b := by
  unfold rdTake at *
  split at h <;> rename_i h1
  · rw [if_pos h1]; exact ⟨rfl, rfl⟩
  · split at h <;> rename_i h2
    · rw [if_neg h1, if_pos h2]; exact ⟨rfl, rfl⟩
    · simp at h
end Sha
end Go.Proofs.YtjadjidjfkahpaaDoor
namespace Go.Proofs.YtjadjidjfkahpaaDoor
namespace Sha
open Go.RowKit Mem
set_option maxHeartbeats 400000 in
theorem numSize_any (z : Int) (w : World) : Calls Tryd.prog 46 #[.int .i64 z] w fun e w' => e = .returned (.int .i64 ((cutN z 1 8 : Nat) : Int)) ∧ w = w' := by
  have hv := cutN_val z 1 8 (by decide)
  have HV := Lib.hid hv
  clear hv
  go_enter Tryd.func46, Tryd.ntmps46
  go_wp2
  go_ret
  exact ⟨by rw [HV.out]; first | rfl | (congr 2; omega), rfl⟩
theorem zeros_splice (b : List (BitVec 8)) (k m : Nat) (hm : m = b.length) : Mem.splice (u8s (List.replicate (m + k) 0)).toArray 0 (u8s (b.take m)) = (u8s (b ++ List.replicate k 0)).toArray := by
  subst hm
  rw [List.take_length, ← List.replicate_append_replicate]
  unfold Mem.splice u8s
  simp
set_option maxRecDepth 100000 in
set_option maxHeartbeats 1000000 in
theorem lengthen_any (b : List (BitVec 8)) (k : Nat) (v : Value) (w : World) (hb : b.length + k ≤ 1000000) (hv : Sl w v b) :
    Calls Tryd.prog 47 #[v, .int .i64 (k : Int)] w (SEnd w (b ++ List.replicate k 0)) := by
  obtain ⟨i8, hi8, hz8, hs8, hb8⟩ := info_parts infoU8
  have hv0 := hv
  obtain ⟨a0, cap, rfl, _, _⟩ := hv
  obtain ⟨m, hm⟩ : ∃ m, m = b.length := ⟨_, rfl⟩
  have hsp := zeros_splice b k m hm
  have hlen : (b ++ List.replicate k 0).length = m + k := by simp [hm]
  rw [← hm] at hb hv0 ⊢
  obtain ⟨T, hT⟩ : ∃ T, T = m + k := ⟨_, rfl⟩
  have hTi : (m : Int) + (k : Int) = (T : Int) := by omega
  have hmT : m ≤ T := by omega
  rw [← hT] at hsp hlen
  have T6 : T ≤ 1000000 := by omega
  have I8 := Lib.hid hi8; have Z8 := Lib.hid hz8; have S8 := Lib.hid hs8; have B8' := Lib.hid hb8; have HV := Lib.hid hv0; have HM := Lib.hid hm; have SP := Lib.hid hsp; have HL := Lib.hid hlen; have TI := Lib.hid hTi; have T6' := Lib.hid T6; have MT := Lib.hid hmT
  clear hi8 hz8 hs8 hb8 hv0 hm hsp hlen hT hTi hmT
  go_enter Tryd.func47, Tryd.ntmps47
  go_wp2_with (first
    | (refine wpList_make_full _ (by rfl) _ _ 22 (by rfl) w.heap.size 5 i8 (.int .u8 0) 1 Tryd.underlying22 I8.out Z8.out S8.out .i64 .i64 ((m : Int) + (k : Int)) ((m : Int) + (k : Int)) T (by rfl) (by rfl) TI.out TI.out (by rw [B8'.out]; omega) (by simp [maxLen]; omega) (Nat.le_refl _) ?_; intro w4 ho4 hg4; have R4 : Hid (At w4 w.heap.size (u8s (List.replicate T 0)).toArray 5) := (by have h := own_full ho4; rw [made_zeros] at h; exact h); have B4 : Hid (Below w.heap.size w w4) := (Below.refl _ _).grown hg4 (Nat.le_refl _) (fun _ h => by cases h); clear ho4 hg4)
    | (refine wpList_copy_sl (by rfl) _ _ (by rfl) w.heap.size 0 T T (.slice a0 m cap) b (by rfl) (by rfl) (HV.out.below B4.out) m (by rw [← HM.out]; exact (Nat.min_eq_left MT.out).symm) _ 5 R4.out (by rw [List.size_toArray, u8s_length, List.length_replicate]; have := MT.out; omega) _ SP.out ?_; intro w5 ha5 hs5 ho5 hk5; have A5 := Lib.hid ha5; have B5 : Hid (Below w.heap.size w w5) := hk5 _ _ B4.out (Nat.le_refl _); clear ha5 hs5 ho5 hk5))
  go_ret
  exact ⟨w.heap.size, by rw [HL.out]; rfl, A5.out, Nat.le_refl _, B5.out⟩
/-- Bytes, places of a number that are 0 so far, and those that are put. -/
def putRow (b : List (BitVec 8)) (n K j : Nat) : List (BitVec 8) := b ++ List.replicate j 0 ++ (nbytes n K).drop j
theorem putRow_length (b : List (BitVec 8)) (n K j : Nat) (h : j ≤ K) : (putRow b n K j).length = b.length + K := by simp [putRow, nbytes_length]; omega
theorem putRow_first (b : List (BitVec 8)) (n K : Nat) : putRow b n K K = b ++ List.replicate K 0 := by
  rw [putRow, List.drop_of_length_le (by rw [nbytes_length]; exact Nat.le_refl _), List.append_nil]
theorem putRow_last (b : List (BitVec 8)) (n K : Nat) : putRow b n K 0 = b ++ nbytes n K := by simp [putRow]
theorem putRow_step (b : List (BitVec 8)) (n K o j : Nat) (ho : o = b.length) (h : j < K) (q : Int) (hq : q = ((nbyte n j).toNat : Int)) :
    (u8s (putRow b n K (j + 1))).toArray.setIfInBounds (o + j) (.int .u8 q) = (u8s (putRow b n K j)).toArray := by
  subst ho; subst hq
  rw [u8s_set]
  congr 2
  have e : (nbytes n K).drop j = nbyte n j :: (nbytes n K).drop (j + 1) := by
    rw [List.drop_eq_getElem_cons (by rw [nbytes_length]; exact h)]
    simp [nbytes]
  unfold putRow
  rw [e, List.replicate_succ', List.append_assoc, List.append_assoc, List.set_append_right _ _ (by omega), Nat.add_sub_cancel_left, List.set_append_right _ _ (by simp), List.length_replicate, Nat.sub_self]
  simp
theorem nbyte_val (n j : Nat) (d : Int) (hd : d = ((256 ^ j : Nat) : Int)) : (n : Int) / d % 256 = ((nbyte n j).toNat : Int) := by
  subst hd
  unfold nbyte
  rw [BitVec.toNat_ofNat, ← Int.natCast_ediv]
  rfl
def PutEnd (w : World) (g : Nat) (L : List (BitVec 8)) (e : Ending) (w' : World) : Prop := e = .returned (.tuple #[]) ∧ At w' g (u8s L).toArray 5 ∧ ∀ B x, Below B x w → B ≤ g → Below B x w'
set_option maxRecDepth 100000 in
set_option maxHeartbeats 2000000 in
theorem putNum_4 (b : List (BitVec 8)) (n g o c : Nat) (w : World) (ho : o = b.length) (_hn : n < 18446744073709551616) (_hc : 4 ≤ c) (hA : At w g (u8s (b ++ List.replicate 4 0)).toArray 5) :
    Calls Tryd.prog 48 #[.slice (some ⟨g, o, none⟩) 4 c, .int .u64 (n : Int), .int .i64 4] w (PutEnd w g (b ++ nbytes n 4)) := by
  rw [← putRow_first b n 4] at hA
  rw [← putRow_last b n 4]
  have A4 := Lib.hid hA
  have K4 : Hid (∀ B x, Below B x w → B ≤ g → Below B x w) := fun _ _ h _ => h
  have N0 := Lib.hid (show (n : Int) % 256 = ((nbyte n 0).toNat : Int) from (by have h := nbyte_val n 0 1 (by decide); simpa using h))
  have S0 : Hid ((u8s (putRow b n 4 1)).toArray.setIfInBounds (o + 0) (.int .u8 ((n : Int) % 256)) = (u8s (putRow b n 4 0)).toArray) := putRow_step b n 4 o 0 ho (by decide) _ N0.out
  have SZ1 : Hid ((u8s (putRow b n 4 1)).toArray.size = o + 4) := (by show _ = _; rw [List.size_toArray, u8s_length, putRow_length _ _ _ _ (by decide), ho])
  have N1 := Lib.hid (nbyte_val n 1 256 (by decide))
  have S1 : Hid ((u8s (putRow b n 4 2)).toArray.setIfInBounds (o + 1) (.int .u8 ((n : Int) / 256 % 256)) = (u8s (putRow b n 4 1)).toArray) := putRow_step b n 4 o 1 ho (by decide) _ N1.out
  have SZ2 : Hid ((u8s (putRow b n 4 2)).toArray.size = o + 4) := (by show _ = _; rw [List.size_toArray, u8s_length, putRow_length _ _ _ _ (by decide), ho])
  have N2 := Lib.hid (nbyte_val n 2 65536 (by decide))
  have S2 : Hid ((u8s (putRow b n 4 3)).toArray.setIfInBounds (o + 2) (.int .u8 ((n : Int) / 65536 % 256)) = (u8s (putRow b n 4 2)).toArray) := putRow_step b n 4 o 2 ho (by decide) _ N2.out
  have SZ3 : Hid ((u8s (putRow b n 4 3)).toArray.size = o + 4) := (by show _ = _; rw [List.size_toArray, u8s_length, putRow_length _ _ _ _ (by decide), ho])
  have N3 := Lib.hid (nbyte_val n 3 16777216 (by decide))
  have S3 : Hid ((u8s (putRow b n 4 4)).toArray.setIfInBounds (o + 3) (.int .u8 ((n : Int) / 16777216 % 256)) = (u8s (putRow b n 4 3)).toArray) := putRow_step b n 4 o 3 ho (by decide) _ N3.out
  have SZ4 : Hid ((u8s (putRow b n 4 4)).toArray.size = o + 4) := (by show _ = _; rw [List.size_toArray, u8s_length, putRow_length _ _ _ _ (by decide), ho])
  clear hA ho
  go_enter Tryd.func48, Tryd.ntmps48
  go_wp2_with (first
    | (refine Mem.wpList_store_one (by rfl) 5 _ _ (by rfl) (by rfl) g (o + 3) (.int .u8 ((n : Int) / 16777216 % 256)) (by rfl) (by rfl) (by rfl) infoB _ 5 A4.out (by rw [SZ4.out]; omega) ?_; intro w3 ha ho hk; rw [S3.out] at ha; have A3 := Lib.hid ha; have K3 : Hid (∀ B x, Below B x w → B ≤ g → Below B x w3) := (fun B x h hle => hk B x (K4.out B x h hle) hle); clear ha ho hk A4 K4)
    | (refine Mem.wpList_store_one (by rfl) 5 _ _ (by rfl) (by rfl) g (o + 2) (.int .u8 ((n : Int) / 65536 % 256)) (by rfl) (by rfl) (by rfl) infoB _ 5 A3.out (by rw [SZ3.out]; omega) ?_; intro w2 ha ho hk; rw [S2.out] at ha; have A2 := Lib.hid ha; have K2 : Hid (∀ B x, Below B x w → B ≤ g → Below B x w2) := (fun B x h hle => hk B x (K3.out B x h hle) hle); clear ha ho hk A3 K3)
    | (refine Mem.wpList_store_one (by rfl) 5 _ _ (by rfl) (by rfl) g (o + 1) (.int .u8 ((n : Int) / 256 % 256)) (by rfl) (by rfl) (by rfl) infoB _ 5 A2.out (by rw [SZ2.out]; omega) ?_; intro w1 ha ho hk; rw [S1.out] at ha; have A1 := Lib.hid ha; have K1 : Hid (∀ B x, Below B x w → B ≤ g → Below B x w1) := (fun B x h hle => hk B x (K2.out B x h hle) hle); clear ha ho hk A2 K2)
    | (refine Mem.wpList_store_one (by rfl) 5 _ _ (by rfl) (by rfl) g (o + 0) (.int .u8 ((n : Int) % 256)) (by rfl) (by rfl) (by rfl) infoB _ 5 A1.out (by rw [SZ1.out]; omega) ?_; intro w0 ha ho hk; rw [S0.out] at ha; have A0 := Lib.hid ha; have K0 : Hid (∀ B x, Below B x w → B ≤ g → Below B x w0) := (fun B x h hle => hk B x (K1.out B x h hle) hle); clear ha ho hk A1 K1))
  go_end0
  exact ⟨rfl, A0.out, K0.out⟩
set_option maxRecDepth 100000 in
set_option maxHeartbeats 1000000 in
theorem pnum4_any (b : List (BitVec 8)) (n : Nat) (v : Value) (w : World) (hv : Sl w v b) (hb : b.length ≤ 8000) (hn : n < 18446744073709551616) :
    Calls Tryd.prog 32 #[v, .int .u64 (n : Int), .int .i64 4] w (SEnd w (b ++ nbytes n 4)) := by
  have hns : ∀ wx, Calls Tryd.prog 46 #[.int .i64 4] wx fun e w' => e = .returned (.int .i64 4) ∧ wx = w' := fun wx => numSize_any 4 wx
  have hle := lengthen_any b 4 v w (by omega) hv
  obtain ⟨a0, cap, rfl, _, _⟩ := hv
  obtain ⟨m, hm⟩ : ∃ m, m = b.length := ⟨_, rfl⟩
  have hlen : (b ++ List.replicate 4 0).length = m + 4 := by simp [hm]
  have hlen2 : (b ++ nbytes n 4).length = m + 4 := by simp [hm, nbytes_length]
  have hpn := fun g wx h => putNum_4 b n g m 4 wx hm hn (Nat.le_refl _) h
  rw [← hm] at hle hb ⊢
  have NS := Lib.hid hns; have LE := Lib.hid hle; have HL := Lib.hid hlen; have HL2 := Lib.hid hlen2; have PN := Lib.hid hpn
  clear hns hle hlen hlen2 hpn hm
  go_enter Tryd.func32, Tryd.ntmps32
  go_wp2_with fail
  refine (NS.out _).mono ?_
  rintro o w' ⟨rfl, rfl⟩
  go_wp2_with fail
  refine LE.out.mono ?_
  rintro o w2 ⟨g, rfl, ha, hg, hb2⟩
  rw [HL.out]
  have HA := Lib.hid ha; have HG := Lib.hid hg; have HB := Lib.hid hb2
  clear ha hg hb2 LE NS
  go_wp2_with (refine wpList_slice_low (by rfl) 22 _ _ (by rfl) 5 Tryd.underlying22 infoB (some ⟨g, 0, none⟩) (m + 4) (m + 4) m (by rfl) (by rfl) (by omega) ?_; intro a1 h1; have e1 := h1 g 0 rfl (by omega); subst e1; clear h1; rw [Nat.add_sub_cancel_left, Nat.zero_add])
  refine (PN.out g w2 HA.out).mono ?_
  rintro o w3 ⟨rfl, ha3, hk3⟩
  have HA3 := Lib.hid ha3; have HB3 := Lib.hid (hk3 _ _ HB.out HG.out)
  clear ha3 hk3
  go_wp2_with fail
  go_ret
  exact ⟨g, by rw [HL2.out]; rfl, HA3.out, HG.out, HB3.out⟩
end Sha
end Go.Proofs.YtjadjidjfkahpaaDoor
namespace Go.Proofs.YtjadjidjfkahpaaDoor
namespace Sha
open Go.RowKit Mem
set_option maxRecDepth 100000
set_option maxHeartbeats 1000000 in
theorem pareRounds_any (r : Int) (w : World) : Calls Tryd.prog 23 #[.int .i64 r] w fun e w' => e = .returned (.bool (!(rBad r))) ∧ w = w' := by
  by_cases h0 : r < 1
  · have e0 : rBad r = true := by simp [rBad, h0]
    rw [e0]
    have h0' : ¬ (1 : Int) ≤ r := by omega
    clear e0
    go_enter Tryd.func23, Tryd.ntmps23
    go_wp2_with fail
    go_ret
    exact ⟨rfl, rfl⟩
  · have h0' : (1 : Int) ≤ r := by omega
    by_cases h1 : 100 < r
    · have e0 : rBad r = true := by simp [rBad, h1]
      rw [e0]
      have h1' : ¬ r ≤ 100 := by omega
      clear e0
      go_enter Tryd.func23, Tryd.ntmps23
      go_wp2_with fail
      go_ret
      exact ⟨rfl, rfl⟩
    · have e0 : rBad r = false := by simp [rBad, h0, h1]
      rw [e0]
      have h1' : r ≤ 100 := by omega
      clear e0
      go_enter Tryd.func23, Tryd.ntmps23
      go_wp2_with fail
      go_ret
      exact ⟨rfl, rfl⟩
/-- What a copy of 32 bytes leaves of 32. -/
theorem copied32 (Z : Array Value) (l : List (BitVec 8)) (hZ : Z.size = 32) (hl : l.length = 32) : (if l = [] then Z else (Z.toList.take 0 ++ u8s l ++ Z.toList.drop (0 + 32)).toArray) = (u8s l).toArray := by
  rw [if_neg (by rintro rfl; cases hl), List.drop_of_length_le (by simp [hZ]), List.take_zero, List.nil_append, List.append_nil]
set_option maxHeartbeats 4000000 in
theorem pturnK_any (k x : List (BitVec 8)) (lk : k.length = 32) (lx : x.length = 32) (w : World) (hT : CTabs w) :
    Calls Tryd.prog 18 #[.agg (u8s k).toArray, .agg (u8s x).toArray] w fun e w' => e = .returned (.agg (u8s (turnK k x)).toArray) ∧ Below w.heap.size w w' := by
  obtain ⟨Z, hZ⟩ : ∃ Z, Z = (u8s z32).toArray := ⟨_, rfl⟩
  have zs : Z.size = 32 := by rw [hZ]; simp [z32, u8s_length]
  have hx : ∀ w, (zeroValue 24).run Tryd.prog w = .ok (.agg Z) w := by rw [hZ]; exact zeroK32
  have non : ∀ wx, Calls Tryd.prog 29 #[.int .u32 0, .int .u64 0] wx fun o w' => o = .returned (.agg (ncOf 0 0)) ∧ Below wx.heap.size wx w' := fun wx => nonce_any 0 0 wx
  have rt : ∀ vx wx, Sl wx vx x → CTabs wx → Calls Tryd.prog 28 #[.agg (u8s k).toArray, .agg (ncOf 0 0), .int .u32 0, vx] wx (SEnd wx (turnK k x)) := fun vx wx h hL => turned_any k (cnonce 0 0) 0 x vx lk (cnonce_length _ _) (by omega) wx h hL
  have lt := turnK_length k x
  rw [lx] at lt
  obtain ⟨T, hTT⟩ : ∃ T, T = turnK k x := ⟨_, rfl⟩
  rw [← hTT] at rt lt ⊢
  have cpy := copied32 Z T zs lt
  obtain ⟨M, hM⟩ : ∃ M, M = (u8s T).toArray := ⟨_, rfl⟩
  have ms : M.size = 32 := by rw [hM]; simp [u8s_length, lt]
  have mo : M.all (·.oneCell') = true := by rw [hM]; exact u8s_one _
  rw [← hM] at cpy ⊢
  obtain ⟨CK, hCK⟩ : ∃ C, C = (u8s k).toArray := ⟨_, rfl⟩
  have cs : CK.size = 32 := by rw [hCK]; simp [u8s_length, lk]
  rw [← hCK] at rt ⊢
  obtain ⟨w1, hw1⟩ : ∃ w1, w1 = ((((w.alloc (.cells CK 24)).alloc (.cells (u8s x).toArray 24)).alloc (.cells Z 24)).alloc (.cells Z 24)) := ⟨_, rfl⟩
  have a0 : At w1 w.heap.size CK 24 := by rw [hw1]; exact (((at_new w CK 24).alloc _).alloc _).alloc _
  have a1 : At w1 (w.heap.size + 1) (u8s x).toArray 24 := by
    rw [hw1]
    have h := ((at_new (w.alloc (.cells CK 24)) (u8s x).toArray 24).alloc (.cells Z 24)).alloc (.cells Z 24)
    simpa using h
  have a2 : At w1 (w.heap.size + 2) Z 24 := by
    rw [hw1]
    have h := (at_new ((w.alloc (.cells CK 24)).alloc (.cells (u8s x).toArray 24)) Z 24).alloc (.cells Z 24)
    simpa using h
  have a3 : At w1 (w.heap.size + 3) Z 24 := by
    rw [hw1]
    have h := at_new (((w.alloc (.cells CK 24)).alloc (.cells (u8s x).toArray 24)).alloc (.cells Z 24)) Z 24
    simpa using h
  have sx := at_sl a1 lx
  have b1 : Below w.heap.size w w1 := by rw [hw1]; exact ((((Below.refl _ _).alloc (Nat.le_refl _) _).alloc (by simp) _).alloc (by simp; omega) _).alloc (by simp; omega) _
  have t1 := hT.below b1 (Nat.le_refl _)
  obtain ⟨CX, hCX⟩ : ∃ C, C = (u8s x).toArray := ⟨_, rfl⟩
  rw [← hCX] at hw1 ⊢
  obtain ⟨nc, hnc⟩ : ∃ nc, nc = ncOf 0 0 := ⟨_, rfl⟩
  rw [← hnc] at non rt
  have ZS := Lib.hid zs; have A0 := Lib.hid a0; have A2 := Lib.hid a2; have A3 := Lib.hid a3; have SX := Lib.hid sx; have B1 := Lib.hid b1; have NON := Lib.hid non; have RT := Lib.hid rt; have MS := Lib.hid ms; have MO := Lib.hid mo; have CS := Lib.hid cs; have CPY := Lib.hid cpy; have LT := Lib.hid lt; have T1 := Lib.hid t1
  clear zs a0 a1 a2 a3 sx b1 non rt ms mo cs cpy lt t1 hZ hM hCK hCX hTT lk lx hnc hT
  go_enter Tryd.func18, Tryd.ntmps18
  go_upto_region 2 with fail
  rw [← hw1]
  clear hx hw1
  have D0 : Hid (Below w1.heap.size w1 w1.drew) := Lib.hid (Below.refl _ _).drew
  refine wp_region_plan_in (fun y => At y w.heap.size CK 24) (.take 0 (.take 1 (.take 3 (.sole 2 (.sole 4 (.sole 5 .done)))))) (by kernel_rfl) (by kernel_rfl) (by kernel_rfl) A0.out.drew ?_
  refine plan_cut 24 _ 32 5 (w.heap.size + 3) 0 (by rfl) (by rfl) (by rfl) (by first | (with_reducible exact Mem.ev_const _ _) | (with_reducible exact Mem.ev_zero _ _ _) | (with_reducible (apply Eq.trans (Mem.ev_tmp _ _ _)); simp only [List.getD_cons_succ, List.getD_cons_zero] <;> rfl)) Tryd.underlying24 infoB ?_
  (simp only [Act.put, List.setIfInBounds_toArray, List.set_cons_zero, List.set_cons_succ])
  refine plan_row 24 _ w.heap.size _ CK 24 (by rfl) (by rfl) (by rfl) (by first | (with_reducible exact Mem.ev_const _ _) | (with_reducible exact Mem.ev_zero _ _ _) | (with_reducible (apply Eq.trans (Mem.ev_tmp _ _ _)); simp only [List.getD_cons_succ, List.getD_cons_zero] <;> rfl)) (fun w' hw' => hw') Tryd.underlying24 (by rfl) (by rw [CS.out]; exact infoDg) ?_
  (simp only [Act.put, List.setIfInBounds_toArray, List.set_cons_zero, List.set_cons_succ])
  refine plan_cut 24 _ 32 5 (w.heap.size + 1) 0 (by rfl) (by rfl) (by rfl) (by first | (with_reducible exact Mem.ev_const _ _) | (with_reducible exact Mem.ev_zero _ _ _) | (with_reducible (apply Eq.trans (Mem.ev_tmp _ _ _)); simp only [List.getD_cons_succ, List.getD_cons_zero] <;> rfl)) Tryd.underlying24 infoB ?_
  (simp only [Act.put, List.setIfInBounds_toArray, List.set_cons_zero, List.set_cons_succ])
  refine plan_call 29 _ _ #[.int .u32 0, .int .u64 0] (by kernel_rfl) (by rfl) (by rfl) (by rfl) (by simp only [List.map_toArray, List.map_cons, List.map_nil] <;> rfl) ?_
  refine (NON.out _).mono ?_
  rintro o2 w2 ⟨rfl, hb⟩
  have D1 : Hid (Below w1.heap.size w1 w2) := Lib.hid (D0.out.trans hb)
  clear hb
  refine ⟨_, rfl, A0.out.below D1.out A0.out.lt, ?_⟩
  (simp only [Act.put, List.setIfInBounds_toArray, List.set_cons_zero, List.set_cons_succ])
  refine plan_call 28 _ _ _ (by kernel_rfl) (by rfl) (by rfl) (by rfl) (by first | exact Mem.ev_none _ | (simp only [List.map_toArray, List.map_cons, List.map_nil, Mem.ev_tmp, List.getD_cons_succ, List.getD_cons_zero] <;> rfl)) ?_
  refine (RT.out _ _ (SX.out.below D1.out) (T1.out.below D1.out (Nat.le_refl _))).mono ?_
  rintro o3 w3 ⟨g3, rfl, ha, hg, hb⟩
  have D2 : Hid (Below w1.heap.size w1 w3) := Lib.hid (D1.out.trans (hb.mono D1.out.size)); have S3 := Lib.hid (at_sl ha LT.out)
  rw [LT.out]
  clear hb ha hg
  refine ⟨_, rfl, A0.out.below D2.out A0.out.lt, ?_⟩
  (simp only [Act.put, List.setIfInBounds_toArray, List.set_cons_zero, List.set_cons_succ])
  refine plan_copy_row _ _ (by rfl) (by rfl) (by rfl) (w.heap.size + 3) 0 Z 24 _ T (by first | (with_reducible exact Mem.ev_const _ _) | (with_reducible exact Mem.ev_zero _ _ _) | (with_reducible (apply Eq.trans (Mem.ev_tmp _ _ _)); simp only [List.getD_cons_succ, List.getD_cons_zero] <;> rfl)) (by first | (with_reducible exact Mem.ev_const _ _) | (with_reducible exact Mem.ev_zero _ _ _) | (with_reducible (apply Eq.trans (Mem.ev_tmp _ _ _)); simp only [List.getD_cons_succ, List.getD_cons_zero] <;> rfl)) S3.out (.inr LT.out) (A3.out.below D2.out A3.out.lt) (by rw [ZS.out]; decide) M CPY.out ?_
  intro nv w4 ha ho hk
  have A4 := Lib.hid ha; have A5 := Lib.hid (at_keep (A2.out.below D2.out A2.out.lt) ho (by omega)); have D4 := Lib.hid (hk _ _ (B1.out.trans (D2.out.mono B1.out.size)) (Nat.le_add_right _ _))
  have AK := at_keep (A0.out.below D2.out A0.out.lt) ho (by omega)
  clear ha ho hk
  refine ⟨AK, ?_⟩
  clear AK
  (simp only [Act.put, List.setIfInBounds_toArray, List.set_cons_zero, List.set_cons_succ])
  refine plan_nil ?_
  go_wp2_with (first
    | (refine wpList_load_all (by rfl) 24 _ (by rfl) (w.heap.size + 3) (by rfl) _ Tryd.underlying24 (by rfl) M _ A4.out (by rw [MS.out]; exact infoDg) ?_)
    | (refine wpList_store_all (by rfl) 24 _ _ (by rfl) (by rfl) (w.heap.size + 2) M (by rfl) (by rfl) (by rw [MS.out]; exact infoDg) Z _ A5.out (by rw [MS.out, ZS.out]) MO.out ?_))
  try simp only [Exit.inBlock, Exit.then]
  refine ret_row (by rfl) (w.heap.size + 2) 24 M _ (by rfl) (A5.out.row M) Tryd.underlying24 (by rfl) (by rw [MS.out]; exact infoDg) ?_
  exact ⟨rfl, below_row D4.out (Nat.le_add_right _ _) M⟩
theorem rb4_nbytes (n : Nat) : nbytes n 4 = rb4 (n : Int) := by
  have h : ∀ k : Nat, BitVec.ofInt 8 (k : Int) = BitVec.ofNat 8 k := fun k => by simp
  show [nbyte n 0, nbyte n 1, nbyte n 2, nbyte n 3] = _
  unfold rb4 nbyte
  have e1 : (n : Int) / 256 = ((n / 256 : Nat) : Int) := by omega
  have e2 : (n : Int) / 65536 = ((n / 65536 : Nat) : Int) := by omega
  have e3 : (n : Int) / 16777216 = ((n / 16777216 : Nat) : Int) := by omega
  rw [e1, e2, e3, h, h, h, h, show n / 256 ^ 0 = n by simp]
theorem sls_lit3 {w : World} {v u y : Value} {l m n : List (BitVec 8)} (h : Sl w v l) (k : Sl w u m) (j : Sl w y n) : Sls (w.alloc (.cells #[v, u, y] 22)) (.slice (some ⟨w.heap.size, 0, none⟩) 3 3) [l, m, n] := by
  have hn := at_new w #[v, u, y] 22
  refine ⟨_, _, rfl, Nat.le_refl _, fun _ => ⟨_, _, rfl, hn.lt, fun i hi => ?_⟩⟩
  match i, hi with
  | 0, _ => exact ⟨v, by rw [hn.cell]; rfl, h.below ((Below.refl _ _).alloc (Nat.le_refl _) _)⟩
  | 1, _ => exact ⟨u, by rw [hn.cell]; rfl, k.below ((Below.refl _ _).alloc (Nat.le_refl _) _)⟩
  | 2, _ => exact ⟨y, by rw [hn.cell]; rfl, j.below ((Below.refl _ _).alloc (Nat.le_refl _) _)⟩
theorem conv_iu (z : Nat) (h1 : z ≤ 100) (w : World) : (convert 3 66 (.int .i64 (z : Int))).run Tryd.prog w = .ok (.int .u64 (z : Int)) w := by
  have h2 : IntKind.u64.wrap (z : Int) = (z : Int) := by rw [IntKind.wrap_u64]; omega
  go_simp
set_option maxHeartbeats 4000000 in
theorem pchecked_any (x : WrV) (hx' : x.Wf) (n : Nat) (hn : x.r = (n : Int)) (h1 : n ≤ 100) (w : World) :
    Calls Tryd.prog 20 #[.agg (wrC x)] w fun e w' => ∃ v, e = .returned v ∧ Sls w' v [x.salt, rb4 (n : Int), x.key] ∧ Below w.heap.size w w' := by
  have c2 := wr_r hx'
  rw [hn] at c2
  have ws := fun wx (h : At wx w.heap.size (wrC x) 30) => sl_ws h hx'
  have wk := fun wx (h : At wx w.heap.size (wrC x) 30) => sl_wk h hx'
  have nu : ∀ wx, Calls Tryd.prog 32 #[.slice none 0 0, .int .u64 (n : Int), .int .i64 4] wx (SEnd wx (rb4 (n : Int))) := fun wx => by
    have h := pnum4_any [] n (.slice none 0 0) wx (sl_none wx) (by decide) (by omega)
    rw [List.nil_append, rb4_nbytes] at h
    exact h
  have cv := fun wx => conv_iu n h1 wx
  have l4 : (rb4 (n : Int)).length = 4 := rfl
  obtain ⟨R4, hR4⟩ : ∃ R, R = rb4 (n : Int) := ⟨_, rfl⟩
  rw [← hR4] at nu l4 ⊢
  obtain ⟨CV, hCV⟩ : ∃ M, M = wrC x := ⟨_, rfl⟩
  rw [← hCV] at c2 ws wk ⊢
  have a0 := at_new w CV 30
  have b1 : Below w.heap.size w (w.alloc (.cells CV 30)) := (Below.refl _ _).alloc (Nat.le_refl _) _
  have WS := Lib.hid ws; have WK := Lib.hid wk; have NU := Lib.hid nu; have CV' := Lib.hid cv; have A0 := Lib.hid a0; have B1 := Lib.hid b1; have C2 := Lib.hid c2; have L4 := Lib.hid l4
  clear ws wk nu cv a0 b1 l4 c2 hx' hn hR4 hCV h1
  go_enter Tryd.func20, Tryd.ntmps20
  go_upto_region 1 with fail
  generalize w.alloc (.cells CV 30) = w1 at *
  have D0 : Hid (Below w1.heap.size w1 w1.drew) := Lib.hid (Below.refl _ _).drew
  refine wp_region_plan_in (fun y => Below w1.heap.size w1 y) (.take 0 (.take 1 (.take 2 (.take 3 (.take 4 (.take 6 (.take 7 (.sole 5 (.sole 8 (.take 9 .done)))))))))) (by kernel_rfl) (by kernel_rfl) (by kernel_rfl) D0.out ?_
  refine plan_field 30 _ 0 w.heap.size 0 ⟨w.heap.size, 0, none⟩ (by rfl) (by rfl) (by rfl) (by first | (with_reducible exact Mem.ev_const _ _) | (with_reducible exact Mem.ev_zero _ _ _) | (with_reducible (apply Eq.trans (Mem.ev_tmp _ _ _)); simp only [List.getD_cons_succ, List.getD_cons_zero] <;> rfl)) (fun wx => by go_simp) ?_
  (simp only [Act.put, List.setIfInBounds_toArray, List.set_cons_zero, List.set_cons_succ])
  refine plan_cut 23 _ 16 5 w.heap.size 0 (by rfl) (by rfl) (by rfl) (by first | (with_reducible exact Mem.ev_const _ _) | (with_reducible exact Mem.ev_zero _ _ _) | (with_reducible (apply Eq.trans (Mem.ev_tmp _ _ _)); simp only [List.getD_cons_succ, List.getD_cons_zero] <;> rfl)) Tryd.underlying23 infoB ?_
  (simp only [Act.put, List.setIfInBounds_toArray, List.set_cons_zero, List.set_cons_succ])
  refine plan_field 30 _ 1 w.heap.size 0 ⟨w.heap.size, 16, none⟩ (by rfl) (by rfl) (by rfl) (by first | (with_reducible exact Mem.ev_const _ _) | (with_reducible exact Mem.ev_zero _ _ _) | (with_reducible (apply Eq.trans (Mem.ev_tmp _ _ _)); simp only [List.getD_cons_succ, List.getD_cons_zero] <;> rfl)) (fun wx => by go_simp) ?_
  (simp only [Act.put, List.setIfInBounds_toArray, List.set_cons_zero, List.set_cons_succ])
  refine plan_cell 3 _ ⟨w.heap.size, 16, none⟩ (.int .i64 (n : Int)) _ (by rfl) (by rfl) (by rfl) (by first | (with_reducible exact Mem.ev_const _ _) | (with_reducible exact Mem.ev_zero _ _ _) | (with_reducible (apply Eq.trans (Mem.ev_tmp _ _ _)); simp only [List.getD_cons_succ, List.getD_cons_zero] <;> rfl)) (fun w' hw' => ((A0.out.below hw' A0.out.lt).cell 16).trans C2.out) Tryd.underlying3 (by rfl) ?_
  (simp only [Act.put, List.setIfInBounds_toArray, List.set_cons_zero, List.set_cons_succ])
  refine plan_conv 3 66 _ (.int .i64 (n : Int)) (.int .u64 (n : Int)) (by rfl) (by rfl) (by rfl) (by first | (with_reducible exact Mem.ev_const _ _) | (with_reducible exact Mem.ev_zero _ _ _) | (with_reducible (apply Eq.trans (Mem.ev_tmp _ _ _)); simp only [List.getD_cons_succ, List.getD_cons_zero] <;> rfl)) (fun wx => CV'.out wx) ?_
  (simp only [Act.put, List.setIfInBounds_toArray, List.set_cons_zero, List.set_cons_succ])
  refine plan_field 30 _ 2 w.heap.size 0 ⟨w.heap.size, 17, none⟩ (by rfl) (by rfl) (by rfl) (by first | (with_reducible exact Mem.ev_const _ _) | (with_reducible exact Mem.ev_zero _ _ _) | (with_reducible (apply Eq.trans (Mem.ev_tmp _ _ _)); simp only [List.getD_cons_succ, List.getD_cons_zero] <;> rfl)) (fun wx => by go_simp) ?_
  (simp only [Act.put, List.setIfInBounds_toArray, List.set_cons_zero, List.set_cons_succ])
  refine plan_cut 24 _ 32 5 w.heap.size 17 (by rfl) (by rfl) (by rfl) (by first | (with_reducible exact Mem.ev_const _ _) | (with_reducible exact Mem.ev_zero _ _ _) | (with_reducible (apply Eq.trans (Mem.ev_tmp _ _ _)); simp only [List.getD_cons_succ, List.getD_cons_zero] <;> rfl)) Tryd.underlying24 infoB ?_
  (simp only [Act.put, List.setIfInBounds_toArray, List.set_cons_zero, List.set_cons_succ])
  refine plan_call 32 _ _ _ (by kernel_rfl) (by rfl) (by rfl) (by rfl) (by first | exact Mem.ev_none _ | (simp only [List.map_toArray, List.map_cons, List.map_nil, Mem.ev_tmp, List.getD_cons_succ, List.getD_cons_zero] <;> rfl)) ?_
  refine (NU.out _).mono ?_
  rintro o2 w2 ⟨g2, rfl, ha, hg, hb⟩
  have D1 : Hid (Below w1.heap.size w1 w2) := Lib.hid (D0.out.trans (hb.mono D0.out.size)); have S2 := Lib.hid (at_sl ha L4.out)
  rw [L4.out]
  clear hb ha hg
  refine ⟨_, rfl, D1.out, ?_⟩
  (simp only [Act.put, List.setIfInBounds_toArray, List.set_cons_zero, List.set_cons_succ])
  have D2 : Hid (Below w1.heap.size w1 (w2.alloc (.cells #[.slice (some ⟨w.heap.size, 0, none⟩) 16 16, .slice (some ⟨g2, 0, none⟩) 4 4, .slice (some ⟨w.heap.size, 17, none⟩) 32 32] 22))) := Lib.hid (D1.out.alloc D1.out.size _)
  have A2 := Lib.hid (A0.out.below D1.out A0.out.lt)
  have SS := Lib.hid (sls_lit3 (WS.out _ A2.out) S2.out (WK.out _ A2.out))
  refine plan_slice 52 22 3 _ #[.slice (some ⟨w.heap.size, 0, none⟩) 16 16, .slice (some ⟨g2, 0, none⟩) 4 4, .slice (some ⟨w.heap.size, 17, none⟩) 32 32] (by rfl) (by rfl) (by rfl) Tryd.underlying52 (by kernel_rfl) D2.out ?_
  (simp only [Act.put, List.setIfInBounds_toArray, List.set_cons_zero, List.set_cons_succ])
  (first | (refine plan_move _ _ (by rfl) (by rfl) (.inl (by rfl)) (by first | (with_reducible exact Mem.ev_const _ _) | (with_reducible exact Mem.ev_zero _ _ _) | (with_reducible (apply Eq.trans (Mem.ev_tmp _ _ _)); simp only [List.getD_cons_succ, List.getD_cons_zero] <;> rfl)) ?_) | (refine plan_move _ _ (by rfl) (by rfl) (.inr (by rfl)) (by first | (with_reducible exact Mem.ev_const _ _) | (with_reducible exact Mem.ev_zero _ _ _) | (with_reducible (apply Eq.trans (Mem.ev_tmp _ _ _)); simp only [List.getD_cons_succ, List.getD_cons_zero] <;> rfl)) ?_) | (refine plan_pick_t _ _ _ _ (by rfl) (by rfl) (by rfl) (by first | (with_reducible exact Mem.ev_const _ _) | (with_reducible exact Mem.ev_zero _ _ _) | (with_reducible (apply Eq.trans (Mem.ev_tmp _ _ _)); simp only [List.getD_cons_succ, List.getD_cons_zero] <;> rfl)) (by first | (with_reducible exact Mem.ev_const _ _) | (with_reducible exact Mem.ev_zero _ _ _) | (with_reducible (apply Eq.trans (Mem.ev_tmp _ _ _)); simp only [List.getD_cons_succ, List.getD_cons_zero] <;> rfl)) ?_) | (refine plan_pick_f _ _ _ _ (by rfl) (by rfl) (by rfl) (by first | (with_reducible exact Mem.ev_const _ _) | (with_reducible exact Mem.ev_zero _ _ _) | (with_reducible (apply Eq.trans (Mem.ev_tmp _ _ _)); simp only [List.getD_cons_succ, List.getD_cons_zero] <;> rfl)) (by first | (with_reducible exact Mem.ev_const _ _) | (with_reducible exact Mem.ev_zero _ _ _) | (with_reducible (apply Eq.trans (Mem.ev_tmp _ _ _)); simp only [List.getD_cons_succ, List.getD_cons_zero] <;> rfl)) ?_))
  (simp only [Act.put, List.setIfInBounds_toArray, List.set_cons_zero, List.set_cons_succ])
  refine plan_nil ?_
  go_wp2_with fail
  go_ret
  exact ⟨_, rfl, SS.out, B1.out.trans (D2.out.mono B1.out.size)⟩
end Sha
end Go.Proofs.YtjadjidjfkahpaaDoor
namespace Go.Proofs.YtjadjidjfkahpaaDoor
namespace Sha
open Go.RowKit Mem
set_option maxRecDepth 100000
set_option maxHeartbeats 4000000 in
theorem phalves_any (p s : List (BitVec 8)) (ls : s.length = 16) (r : Int) (v : Value) (w : World) (hp : Sl w v p) (lp : p.length ≤ 1000000) (hL : Tabs w) :
    Calls Tryd.prog 11 #[v, .agg (u8s s).toArray, .int .i64 r] w (HalfEnd w (halvesR p s r).1 (halvesR p s r).2.1 (halvesR p s r).2.2) := by
  obtain ⟨Z, hZ⟩ : ∃ Z, Z = (u8s z32).toArray := ⟨_, rfl⟩
  have zs : Z.size = 32 := by rw [hZ]; simp [z32, u8s_length]
  have zo : Z.all (·.oneCell') = true := by rw [hZ]; exact u8s_one _
  have hx : ∀ w, (zeroValue 24).run Tryd.prog w = .ok (.agg Z) w := by rw [hZ]; exact zeroK32
  obtain ⟨C, hC⟩ : ∃ C, C = (u8s s).toArray := ⟨_, rfl⟩
  rw [← hC]
  obtain ⟨w1, hw1⟩ : ∃ w1, w1 = ((((w.alloc (.cells C 23)).alloc (.cells Z 24)).alloc (.cells Z 24)).alloc (.cells Z 24)).alloc (.cells Z 24) := ⟨_, rfl⟩
  have a0 : At w1 w.heap.size C 23 := by rw [hw1]; exact ((((at_new w C 23).alloc _).alloc _).alloc _).alloc _
  have a1 : At w1 (w.heap.size + 1) Z 24 := by
    rw [hw1]
    have h := (((at_new (w.alloc (.cells C 23)) Z 24).alloc (.cells Z 24)).alloc (.cells Z 24)).alloc (.cells Z 24)
    simpa using h
  have a2 : At w1 (w.heap.size + 2) Z 24 := by
    rw [hw1]
    have h := ((at_new ((w.alloc (.cells C 23)).alloc (.cells Z 24)) Z 24).alloc (.cells Z 24)).alloc (.cells Z 24)
    simpa using h
  have a3 : At w1 (w.heap.size + 3) Z 24 := by
    rw [hw1]
    have h := (at_new (((w.alloc (.cells C 23)).alloc (.cells Z 24)).alloc (.cells Z 24)) Z 24).alloc (.cells Z 24)
    simpa using h
  have a4 : At w1 (w.heap.size + 4) Z 24 := by
    rw [hw1]
    have h := at_new ((((w.alloc (.cells C 23)).alloc (.cells Z 24)).alloc (.cells Z 24)).alloc (.cells Z 24)) Z 24
    simpa using h
  have b1 : Below w.heap.size w w1 := by rw [hw1]; exact (((((Below.refl _ _).alloc (Nat.le_refl _) _).alloc (by simp) _).alloc (by simp; omega) _).alloc (by simp; omega) _).alloc (by simp; omega) _
  have z1 : w1.heap.size = w.heap.size + 5 := by rw [hw1]; simp
  by_cases hb : rBad r = true
  · have e0 : halvesR p s r = (z32, z32, 1) := by unfold halvesR; rw [if_pos hb]
    rw [e0]
    have ar : ∀ wx, Calls Tryd.prog 23 #[.int .i64 r] wx fun e w' => e = .returned (.bool false) ∧ wx = w' := fun wx => by
      have h := pareRounds_any r wx
      rw [hb] at h; exact h
    have ZS := Lib.hid zs; have ZO := Lib.hid zo; have A1 := Lib.hid a1; have A2 := Lib.hid a2; have A3 := Lib.hid a3; have A4 := Lib.hid a4; have B1 := Lib.hid b1; have HZ := Lib.hid hZ; have AR := Lib.hid ar
    clear zs zo a0 a1 a2 a3 a4 b1 z1 hZ e0 ls lp hC hp hL ar hb
    go_enter Tryd.func11, Tryd.ntmps11
    go_upto_region 2 with fail
    rw [← hw1]
    clear hx hw1
    go_wp2_with fail
    refine (AR.out w1).mono ?_
    rintro e w2 ⟨rfl, rfl⟩
    go_wp2_with fail
    have E3 := Lib.hid A3.out.drew; have E4 := Lib.hid A4.out.drew; have F1 := Lib.hid A1.out.drew; have F2 := Lib.hid A2.out.drew; have D0 := Lib.hid B1.out.drew
    clear A1 A2 A3 A4
    refine wp_region_plan_in (fun y => At y (w.heap.size + 3) Z 24 ∧ At y (w.heap.size + 4) Z 24) (.take 0 (.take 1 (.sole 2 (.sole 3 (.take 4 .done))))) (by kernel_rfl) (by kernel_rfl) (by kernel_rfl) ⟨E3.out, E4.out⟩ ?_
    refine plan_row 24 _ (w.heap.size + 3) _ Z 24 (by rfl) (by rfl) (by rfl) (by first | (with_reducible exact Mem.ev_const _ _) | (with_reducible exact Mem.ev_zero _ _ _) | (with_reducible (apply Eq.trans (Mem.ev_tmp _ _ _)); simp only [List.getD_cons_succ, List.getD_cons_zero] <;> rfl)) (fun w' hw' => hw'.1) Tryd.underlying24 (by rfl) (by rw [ZS.out]; exact infoDg) ?_
    (simp only [Act.put, List.setIfInBounds_toArray, List.set_cons_zero, List.set_cons_succ])
    refine plan_row 24 _ (w.heap.size + 4) _ Z 24 (by rfl) (by rfl) (by rfl) (by first | (with_reducible exact Mem.ev_const _ _) | (with_reducible exact Mem.ev_zero _ _ _) | (with_reducible (apply Eq.trans (Mem.ev_tmp _ _ _)); simp only [List.getD_cons_succ, List.getD_cons_zero] <;> rfl)) (fun w' hw' => hw'.2) Tryd.underlying24 (by rfl) (by rw [ZS.out]; exact infoDg) ?_
    (simp only [Act.put, List.setIfInBounds_toArray, List.set_cons_zero, List.set_cons_succ])
    refine plan_store 24 _ _ (w.heap.size + 1) Z Z 24 (by rfl) (by rfl) (by rfl) (by rfl) (by first | (with_reducible exact Mem.ev_const _ _) | (with_reducible exact Mem.ev_zero _ _ _) | (with_reducible (apply Eq.trans (Mem.ev_tmp _ _ _)); simp only [List.getD_cons_succ, List.getD_cons_zero] <;> rfl)) (by first | (with_reducible exact Mem.ev_const _ _) | (with_reducible exact Mem.ev_zero _ _ _) | (with_reducible (apply Eq.trans (Mem.ev_tmp _ _ _)); simp only [List.getD_cons_succ, List.getD_cons_zero] <;> rfl)) (by rw [ZS.out]; exact infoDg) F1.out (by rfl) ZO.out ⟨E3.out.row_other Z (by omega), E4.out.row_other Z (by omega)⟩ ?_
    have F3 := Lib.hid (F1.out.row Z); have F4 := Lib.hid (F2.out.row_other (g := w.heap.size + 1) Z (by omega)); have G3 := Lib.hid (E3.out.row_other (g := w.heap.size + 1) Z (by omega)); have G4 := Lib.hid (E4.out.row_other (g := w.heap.size + 1) Z (by omega))
    refine plan_store 24 _ _ (w.heap.size + 2) Z Z 24 (by rfl) (by rfl) (by rfl) (by rfl) (by first | (with_reducible exact Mem.ev_const _ _) | (with_reducible exact Mem.ev_zero _ _ _) | (with_reducible (apply Eq.trans (Mem.ev_tmp _ _ _)); simp only [List.getD_cons_succ, List.getD_cons_zero] <;> rfl)) (by first | (with_reducible exact Mem.ev_const _ _) | (with_reducible exact Mem.ev_zero _ _ _) | (with_reducible (apply Eq.trans (Mem.ev_tmp _ _ _)); simp only [List.getD_cons_succ, List.getD_cons_zero] <;> rfl)) (by rw [ZS.out]; exact infoDg) F4.out (by rfl) ZO.out ⟨G3.out.row_other Z (by omega), G4.out.row_other Z (by omega)⟩ ?_
    (first | (refine plan_move _ _ (by rfl) (by rfl) (.inl (by rfl)) (by first | (with_reducible exact Mem.ev_const _ _) | (with_reducible exact Mem.ev_zero _ _ _) | (with_reducible (apply Eq.trans (Mem.ev_tmp _ _ _)); simp only [List.getD_cons_succ, List.getD_cons_zero] <;> rfl)) ?_) | (refine plan_move _ _ (by rfl) (by rfl) (.inr (by rfl)) (by first | (with_reducible exact Mem.ev_const _ _) | (with_reducible exact Mem.ev_zero _ _ _) | (with_reducible (apply Eq.trans (Mem.ev_tmp _ _ _)); simp only [List.getD_cons_succ, List.getD_cons_zero] <;> rfl)) ?_) | (refine plan_pick_t _ _ _ _ (by rfl) (by rfl) (by rfl) (by first | (with_reducible exact Mem.ev_const _ _) | (with_reducible exact Mem.ev_zero _ _ _) | (with_reducible (apply Eq.trans (Mem.ev_tmp _ _ _)); simp only [List.getD_cons_succ, List.getD_cons_zero] <;> rfl)) (by first | (with_reducible exact Mem.ev_const _ _) | (with_reducible exact Mem.ev_zero _ _ _) | (with_reducible (apply Eq.trans (Mem.ev_tmp _ _ _)); simp only [List.getD_cons_succ, List.getD_cons_zero] <;> rfl)) ?_) | (refine plan_pick_f _ _ _ _ (by rfl) (by rfl) (by rfl) (by first | (with_reducible exact Mem.ev_const _ _) | (with_reducible exact Mem.ev_zero _ _ _) | (with_reducible (apply Eq.trans (Mem.ev_tmp _ _ _)); simp only [List.getD_cons_succ, List.getD_cons_zero] <;> rfl)) (by first | (with_reducible exact Mem.ev_const _ _) | (with_reducible exact Mem.ev_zero _ _ _) | (with_reducible (apply Eq.trans (Mem.ev_tmp _ _ _)); simp only [List.getD_cons_succ, List.getD_cons_zero] <;> rfl)) ?_))
    (simp only [Act.put, List.setIfInBounds_toArray, List.set_cons_zero, List.set_cons_succ])
    refine plan_nil ?_
    go_wp2_with fail
    try simp only [Exit.inBlock, Exit.then]
    refine ret_row_row_tmp (by rfl) (w.heap.size + 1) (w.heap.size + 2) 24 24 Z Z _ _ (.int .i64 1) (by rfl) (by rfl) (by rfl) (F3.out.row_other Z (by omega)) (F4.out.row Z) Tryd.underlying24 (by rfl) (by rw [ZS.out]; exact infoDg) Tryd.underlying24 (by rfl) (by rw [ZS.out]; exact infoDg) ?_
    exact ⟨by rw [HZ.out], below_row (below_row D0.out (Nat.le_succ _) Z) (Nat.le_add_right _ _) Z⟩
  · have hb' : ¬ (r < 1 ∨ 100 < r) := fun h => hb ((rBad_iff r).2 h)
    obtain ⟨k, rfl⟩ : ∃ k : Nat, r = (k : Int) := ⟨r.toNat, by omega⟩
    have e0 : halvesR p s (k : Int) = (half1 p s (k : Int), half2 p s (k : Int), 0) := by unfold halvesR; rw [if_neg hb]
    rw [e0]
    have ar : ∀ wx, Calls Tryd.prog 23 #[.int .i64 (k : Int)] wx fun e w' => e = .returned (.bool true) ∧ wx = w' := fun wx => by
      have h := pareRounds_any (k : Int) wx
      rw [show rBad (k : Int) = false by simpa using hb] at h; exact h
    have sl1 : Sl w1 (.slice (some ⟨w.heap.size, 0, none⟩) 16 16) s := by rw [hC] at a0; exact at_sl a0 ls
    have hk : Calls Tryd.prog 24 #[v, .slice (some ⟨w.heap.size, 0, none⟩) 16 16, .int .i64 (k : Int), .int .i64 64] w1 (KEnd w1 (stretched p s k 64)) := skey_good p s k 64 v _ w1 (by omega) (by omega) (by decide) (by omega) (by omega) (hp.below b1) sl1 (hL.below b1 (Nat.le_refl _))
    obtain ⟨S64, hS⟩ : ∃ S, S = stretched p s k 64 := ⟨_, rfl⟩
    have l64 : S64.length = 64 := by rw [hS]; exact stretched_length _ _ _ _
    have h1e : half1 p s (k : Int) = S64.take 32 := by rw [hS]; rfl
    have h2e : half2 p s (k : Int) = S64.drop 32 := by rw [hS]; rfl
    rw [← hS] at hk
    rw [h1e, h2e]
    have l1 : (S64.take 32).length = 32 := by rw [List.length_take, l64]; rfl
    have l2 : (S64.drop 32).length = 32 := by rw [List.length_drop, l64]
    obtain ⟨H1, hH1⟩ : ∃ H, H = S64.take 32 := ⟨_, rfl⟩
    obtain ⟨H2, hH2⟩ : ∃ H, H = S64.drop 32 := ⟨_, rfl⟩
    rw [← hH1, ← hH2]
    rw [← hH1] at l1
    rw [← hH2] at l2
    have cp1 := copied32 Z H1 zs l1
    have cp2 := copied32 Z H2 zs l2
    have s1 : (u8s H1).toArray.size = 32 := by simp [u8s_length, l1]
    have s2 : (u8s H2).toArray.size = 32 := by simp [u8s_length, l2]
    have o1 : (u8s H1).toArray.all (·.oneCell') = true := u8s_one _
    have o2 : (u8s H2).toArray.all (·.oneCell') = true := u8s_one _
    obtain ⟨M1, hM1⟩ : ∃ M, M = (u8s H1).toArray := ⟨_, rfl⟩
    obtain ⟨M2, hM2⟩ : ∃ M, M = (u8s H2).toArray := ⟨_, rfl⟩
    rw [← hM1] at s1 o1 cp1
    rw [← hM2] at s2 o2 cp2
    obtain ⟨q0, c0, rfl⟩ := sl_hdw hp
    obtain ⟨m, hm⟩ : ∃ m, m = p.length := ⟨_, rfl⟩
    rw [← hm] at hk ⊢
    have ZS := Lib.hid zs; have A1 := Lib.hid a1; have A2 := Lib.hid a2; have A3 := Lib.hid a3; have A4 := Lib.hid a4; have B1 := Lib.hid b1; have HK := Lib.hid hk; have AR := Lib.hid ar; have S1 := Lib.hid s1; have S2 := Lib.hid s2; have O1 := Lib.hid o1; have O2 := Lib.hid o2; have HM1 := Lib.hid hM1; have HM2 := Lib.hid hM2; have L64 := Lib.hid l64; have HH1 := Lib.hid hH1; have HH2 := Lib.hid hH2; have L1 := Lib.hid l1; have L2 := Lib.hid l2; have C1 := Lib.hid cp1; have C2 := Lib.hid cp2; have Z1 := Lib.hid z1
    clear zs zo a0 a1 a2 a3 a4 b1 hZ hp e0 ls lp hC hk s1 s2 o1 o2 hM1 hM2 l64 hH1 hH2 hS h1e h2e l1 l2 hm hb hb' cp1 cp2 z1 hL ar sl1
    go_enter Tryd.func11, Tryd.ntmps11
    go_upto_region 2 with fail
    rw [← hw1]
    clear hx hw1
    go_wp2_with fail
    refine (AR.out w1).mono ?_
    rintro e w2 ⟨rfl, rfl⟩
    go_wp2_with (refine wpList_slice_arr (by rfl) 23 _ (by rfl) 16 5 w.heap.size 0 (by rfl) Tryd.underlying23 infoB ?_)
    refine HK.out.mono ?_
    rintro e w2 ⟨g, rfl, ha, hg, hb2⟩
    have G2 := Lib.hid ha.drew; have HG : Hid (w.heap.size + 5 ≤ g) := Lib.hid (by have h := Z1.out; omega); have B2 : Hid (Below w.heap.size w w2.drew) := Lib.hid (B1.out.trans (hb2.mono B1.out.size)).drew
    have E1 := Lib.hid (A1.out.below hb2 A1.out.lt).drew; have E2 := Lib.hid (A2.out.below hb2 A2.out.lt).drew; have E3 := Lib.hid (A3.out.below hb2 A3.out.lt).drew; have E4 := Lib.hid (A4.out.below hb2 A4.out.lt).drew
    clear ha hg hb2 A1 A2 A3 A4 B1 HK AR
    rw [L64.out]
    have P1 : Hid (Sl w2.drew (.slice (pieceA (some ⟨g, 0, none⟩) 64 0) 32 64) H1) := by
      have h := sl_piece (at_sl G2.out rfl) (i := 0) (j := 32) (Nat.zero_le _) (by rw [L64.out]; decide)
      rw [L64.out] at h
      rw [HH1.out]; exact h
    go_wp2_with fail
    refine wp_region_plan_in (fun _ => True) (.take 0 (.take 1 (.take 2 (.sole 3 .done)))) (by kernel_rfl) (by kernel_rfl) (by kernel_rfl) trivial ?_
    refine plan_cut 24 _ 32 5 (w.heap.size + 3) 0 (by rfl) (by rfl) (by rfl) (by first | (with_reducible exact Mem.ev_const _ _) | (with_reducible exact Mem.ev_zero _ _ _) | (with_reducible (apply Eq.trans (Mem.ev_tmp _ _ _)); simp only [List.getD_cons_succ, List.getD_cons_zero] <;> rfl)) Tryd.underlying24 infoB ?_
    (simp only [Act.put, List.setIfInBounds_toArray, List.set_cons_zero, List.set_cons_succ])
    (first | (refine plan_move _ _ (by rfl) (by rfl) (.inl (by rfl)) (by first | (with_reducible exact Mem.ev_const _ _) | (with_reducible exact Mem.ev_zero _ _ _) | (with_reducible (apply Eq.trans (Mem.ev_tmp _ _ _)); simp only [List.getD_cons_succ, List.getD_cons_zero] <;> rfl)) ?_) | (refine plan_move _ _ (by rfl) (by rfl) (.inr (by rfl)) (by first | (with_reducible exact Mem.ev_const _ _) | (with_reducible exact Mem.ev_zero _ _ _) | (with_reducible (apply Eq.trans (Mem.ev_tmp _ _ _)); simp only [List.getD_cons_succ, List.getD_cons_zero] <;> rfl)) ?_) | (refine plan_pick_t _ _ _ _ (by rfl) (by rfl) (by rfl) (by first | (with_reducible exact Mem.ev_const _ _) | (with_reducible exact Mem.ev_zero _ _ _) | (with_reducible (apply Eq.trans (Mem.ev_tmp _ _ _)); simp only [List.getD_cons_succ, List.getD_cons_zero] <;> rfl)) (by first | (with_reducible exact Mem.ev_const _ _) | (with_reducible exact Mem.ev_zero _ _ _) | (with_reducible (apply Eq.trans (Mem.ev_tmp _ _ _)); simp only [List.getD_cons_succ, List.getD_cons_zero] <;> rfl)) ?_) | (refine plan_pick_f _ _ _ _ (by rfl) (by rfl) (by rfl) (by first | (with_reducible exact Mem.ev_const _ _) | (with_reducible exact Mem.ev_zero _ _ _) | (with_reducible (apply Eq.trans (Mem.ev_tmp _ _ _)); simp only [List.getD_cons_succ, List.getD_cons_zero] <;> rfl)) (by first | (with_reducible exact Mem.ev_const _ _) | (with_reducible exact Mem.ev_zero _ _ _) | (with_reducible (apply Eq.trans (Mem.ev_tmp _ _ _)); simp only [List.getD_cons_succ, List.getD_cons_zero] <;> rfl)) ?_))
    (simp only [Act.put, List.setIfInBounds_toArray, List.set_cons_zero, List.set_cons_succ])
    refine plan_piece_to 22 _ _ (by rfl) (by rfl) (by rfl) Tryd.underlying22 (some ⟨g, 0, none⟩) 64 64 32 (by first | (with_reducible exact Mem.ev_const _ _) | (with_reducible exact Mem.ev_zero _ _ _) | (with_reducible (apply Eq.trans (Mem.ev_tmp _ _ _)); simp only [List.getD_cons_succ, List.getD_cons_zero] <;> rfl)) (by rfl) (by decide) (by decide) ?_
    (simp only [Act.put, List.setIfInBounds_toArray, List.set_cons_zero, List.set_cons_succ])
    refine plan_copy_row _ _ (by rfl) (by rfl) (by rfl) (w.heap.size + 3) 0 Z 24 _ H1 (by first | (with_reducible exact Mem.ev_const _ _) | (with_reducible exact Mem.ev_zero _ _ _) | (with_reducible (apply Eq.trans (Mem.ev_tmp _ _ _)); simp only [List.getD_cons_succ, List.getD_cons_zero] <;> rfl)) (by first | (with_reducible exact Mem.ev_const _ _) | (with_reducible exact Mem.ev_zero _ _ _) | (with_reducible (apply Eq.trans (Mem.ev_tmp _ _ _)); simp only [List.getD_cons_succ, List.getD_cons_zero] <;> rfl)) P1.out (.inr L1.out) E3.out (by rw [ZS.out]; decide) M1 C1.out ?_
    intro nv w3 ha ho hk
    have G3 := Lib.hid (at_keep G2.out ho (by have h := HG.out; omega)).drew
    have I1 := Lib.hid (at_keep E1.out ho (by omega)).drew; have I2 := Lib.hid (at_keep E2.out ho (by omega)).drew; have I3 := Lib.hid ha.drew; have I4 := Lib.hid (at_keep E4.out ho (by omega)).drew; have B3 := Lib.hid (hk _ _ B2.out (Nat.le_add_right _ _)).drew
    clear ha ho hk G2 E1 E2 E3 E4 B2 P1
    refine ⟨trivial, ?_⟩
    (simp only [Act.put, List.setIfInBounds_toArray, List.set_cons_zero, List.set_cons_succ])
    refine plan_nil ?_
    have P2 : Hid (Sl w3.drew (.slice (pieceA (some ⟨g, 0, none⟩) 64 32) (64 - 32) (64 - 32)) H2) := by
      have h := sl_piece (at_sl G3.out rfl) (i := 32) (j := 64) (by decide) (by rw [L64.out]; decide)
      rw [HH2.out]
      have e : ((S64.drop 32).take (64 - 32)) = S64.drop 32 := List.take_of_length_le (Nat.le_of_eq (by rw [List.length_drop, L64.out]))
      rw [e, L64.out] at h; exact h
    go_wp2_with fail
    refine wp_region_plan_in (fun _ => True) (.take 0 (.take 1 (.take 2 (.sole 3 .done)))) (by kernel_rfl) (by kernel_rfl) (by kernel_rfl) trivial ?_
    refine plan_cut 24 _ 32 5 (w.heap.size + 4) 0 (by rfl) (by rfl) (by rfl) (by first | (with_reducible exact Mem.ev_const _ _) | (with_reducible exact Mem.ev_zero _ _ _) | (with_reducible (apply Eq.trans (Mem.ev_tmp _ _ _)); simp only [List.getD_cons_succ, List.getD_cons_zero] <;> rfl)) Tryd.underlying24 infoB ?_
    (simp only [Act.put, List.setIfInBounds_toArray, List.set_cons_zero, List.set_cons_succ])
    (first | (refine plan_move _ _ (by rfl) (by rfl) (.inl (by rfl)) (by first | (with_reducible exact Mem.ev_const _ _) | (with_reducible exact Mem.ev_zero _ _ _) | (with_reducible (apply Eq.trans (Mem.ev_tmp _ _ _)); simp only [List.getD_cons_succ, List.getD_cons_zero] <;> rfl)) ?_) | (refine plan_move _ _ (by rfl) (by rfl) (.inr (by rfl)) (by first | (with_reducible exact Mem.ev_const _ _) | (with_reducible exact Mem.ev_zero _ _ _) | (with_reducible (apply Eq.trans (Mem.ev_tmp _ _ _)); simp only [List.getD_cons_succ, List.getD_cons_zero] <;> rfl)) ?_) | (refine plan_pick_t _ _ _ _ (by rfl) (by rfl) (by rfl) (by first | (with_reducible exact Mem.ev_const _ _) | (with_reducible exact Mem.ev_zero _ _ _) | (with_reducible (apply Eq.trans (Mem.ev_tmp _ _ _)); simp only [List.getD_cons_succ, List.getD_cons_zero] <;> rfl)) (by first | (with_reducible exact Mem.ev_const _ _) | (with_reducible exact Mem.ev_zero _ _ _) | (with_reducible (apply Eq.trans (Mem.ev_tmp _ _ _)); simp only [List.getD_cons_succ, List.getD_cons_zero] <;> rfl)) ?_) | (refine plan_pick_f _ _ _ _ (by rfl) (by rfl) (by rfl) (by first | (with_reducible exact Mem.ev_const _ _) | (with_reducible exact Mem.ev_zero _ _ _) | (with_reducible (apply Eq.trans (Mem.ev_tmp _ _ _)); simp only [List.getD_cons_succ, List.getD_cons_zero] <;> rfl)) (by first | (with_reducible exact Mem.ev_const _ _) | (with_reducible exact Mem.ev_zero _ _ _) | (with_reducible (apply Eq.trans (Mem.ev_tmp _ _ _)); simp only [List.getD_cons_succ, List.getD_cons_zero] <;> rfl)) ?_))
    (simp only [Act.put, List.setIfInBounds_toArray, List.set_cons_zero, List.set_cons_succ])
    refine plan_piece_from 22 _ _ (by rfl) (by rfl) (by rfl) Tryd.underlying22 (some ⟨g, 0, none⟩) 64 64 32 (by first | (with_reducible exact Mem.ev_const _ _) | (with_reducible exact Mem.ev_zero _ _ _) | (with_reducible (apply Eq.trans (Mem.ev_tmp _ _ _)); simp only [List.getD_cons_succ, List.getD_cons_zero] <;> rfl)) (by rfl) (by decide) (by decide) ?_
    (simp only [Act.put, List.setIfInBounds_toArray, List.set_cons_zero, List.set_cons_succ])
    refine plan_copy_row _ _ (by rfl) (by rfl) (by rfl) (w.heap.size + 4) 0 Z 24 _ H2 (by first | (with_reducible exact Mem.ev_const _ _) | (with_reducible exact Mem.ev_zero _ _ _) | (with_reducible (apply Eq.trans (Mem.ev_tmp _ _ _)); simp only [List.getD_cons_succ, List.getD_cons_zero] <;> rfl)) (by first | (with_reducible exact Mem.ev_const _ _) | (with_reducible exact Mem.ev_zero _ _ _) | (with_reducible (apply Eq.trans (Mem.ev_tmp _ _ _)); simp only [List.getD_cons_succ, List.getD_cons_zero] <;> rfl)) P2.out (.inr L2.out) I4.out (by rw [ZS.out]; decide) M2 C2.out ?_
    intro nv2 w4 ha ho hk
    have J1 := Lib.hid (at_keep I1.out ho (by omega)).drew; have J2 := Lib.hid (at_keep I2.out ho (by omega)).drew; have J3 := Lib.hid (at_keep I3.out ho (by omega)).drew; have J4 := Lib.hid ha.drew; have B4 := Lib.hid (hk _ _ B3.out (Nat.le_add_right _ _)).drew
    clear ha ho hk G3 I1 I2 I3 I4 B3 P2
    refine ⟨trivial, ?_⟩
    (simp only [Act.put, List.setIfInBounds_toArray, List.set_cons_zero, List.set_cons_succ])
    refine plan_nil ?_
    go_wp2_with fail
    refine wp_region_plan_in (fun y => At y (w.heap.size + 3) M1 24 ∧ At y (w.heap.size + 4) M2 24) (.take 0 (.take 1 (.sole 2 (.sole 3 (.take 4 .done))))) (by kernel_rfl) (by kernel_rfl) (by kernel_rfl) ⟨J3.out, J4.out⟩ ?_
    refine plan_row 24 _ (w.heap.size + 3) _ M1 24 (by rfl) (by rfl) (by rfl) (by first | (with_reducible exact Mem.ev_const _ _) | (with_reducible exact Mem.ev_zero _ _ _) | (with_reducible (apply Eq.trans (Mem.ev_tmp _ _ _)); simp only [List.getD_cons_succ, List.getD_cons_zero] <;> rfl)) (fun w' hw' => hw'.1) Tryd.underlying24 (by rfl) (by rw [S1.out]; exact infoDg) ?_
    (simp only [Act.put, List.setIfInBounds_toArray, List.set_cons_zero, List.set_cons_succ])
    refine plan_row 24 _ (w.heap.size + 4) _ M2 24 (by rfl) (by rfl) (by rfl) (by first | (with_reducible exact Mem.ev_const _ _) | (with_reducible exact Mem.ev_zero _ _ _) | (with_reducible (apply Eq.trans (Mem.ev_tmp _ _ _)); simp only [List.getD_cons_succ, List.getD_cons_zero] <;> rfl)) (fun w' hw' => hw'.2) Tryd.underlying24 (by rfl) (by rw [S2.out]; exact infoDg) ?_
    (simp only [Act.put, List.setIfInBounds_toArray, List.set_cons_zero, List.set_cons_succ])
    refine plan_store 24 _ _ (w.heap.size + 1) M1 Z 24 (by rfl) (by rfl) (by rfl) (by rfl) (by first | (with_reducible exact Mem.ev_const _ _) | (with_reducible exact Mem.ev_zero _ _ _) | (with_reducible (apply Eq.trans (Mem.ev_tmp _ _ _)); simp only [List.getD_cons_succ, List.getD_cons_zero] <;> rfl)) (by first | (with_reducible exact Mem.ev_const _ _) | (with_reducible exact Mem.ev_zero _ _ _) | (with_reducible (apply Eq.trans (Mem.ev_tmp _ _ _)); simp only [List.getD_cons_succ, List.getD_cons_zero] <;> rfl)) (by rw [S1.out]; exact infoDg) J1.out (by rw [S1.out, ZS.out]) O1.out ⟨J3.out.row_other M1 (by omega), J4.out.row_other M1 (by omega)⟩ ?_
    have K1 := Lib.hid (J1.out.row M1); have K2 := Lib.hid (J2.out.row_other (g := w.heap.size + 1) M1 (by omega)); have K3 := Lib.hid (J3.out.row_other (g := w.heap.size + 1) M1 (by omega)); have K4 := Lib.hid (J4.out.row_other (g := w.heap.size + 1) M1 (by omega))
    refine plan_store 24 _ _ (w.heap.size + 2) M2 Z 24 (by rfl) (by rfl) (by rfl) (by rfl) (by first | (with_reducible exact Mem.ev_const _ _) | (with_reducible exact Mem.ev_zero _ _ _) | (with_reducible (apply Eq.trans (Mem.ev_tmp _ _ _)); simp only [List.getD_cons_succ, List.getD_cons_zero] <;> rfl)) (by first | (with_reducible exact Mem.ev_const _ _) | (with_reducible exact Mem.ev_zero _ _ _) | (with_reducible (apply Eq.trans (Mem.ev_tmp _ _ _)); simp only [List.getD_cons_succ, List.getD_cons_zero] <;> rfl)) (by rw [S2.out]; exact infoDg) K2.out (by rw [S2.out, ZS.out]) O2.out ⟨K3.out.row_other M2 (by omega), K4.out.row_other M2 (by omega)⟩ ?_
    (first | (refine plan_move _ _ (by rfl) (by rfl) (.inl (by rfl)) (by first | (with_reducible exact Mem.ev_const _ _) | (with_reducible exact Mem.ev_zero _ _ _) | (with_reducible (apply Eq.trans (Mem.ev_tmp _ _ _)); simp only [List.getD_cons_succ, List.getD_cons_zero] <;> rfl)) ?_) | (refine plan_move _ _ (by rfl) (by rfl) (.inr (by rfl)) (by first | (with_reducible exact Mem.ev_const _ _) | (with_reducible exact Mem.ev_zero _ _ _) | (with_reducible (apply Eq.trans (Mem.ev_tmp _ _ _)); simp only [List.getD_cons_succ, List.getD_cons_zero] <;> rfl)) ?_) | (refine plan_pick_t _ _ _ _ (by rfl) (by rfl) (by rfl) (by first | (with_reducible exact Mem.ev_const _ _) | (with_reducible exact Mem.ev_zero _ _ _) | (with_reducible (apply Eq.trans (Mem.ev_tmp _ _ _)); simp only [List.getD_cons_succ, List.getD_cons_zero] <;> rfl)) (by first | (with_reducible exact Mem.ev_const _ _) | (with_reducible exact Mem.ev_zero _ _ _) | (with_reducible (apply Eq.trans (Mem.ev_tmp _ _ _)); simp only [List.getD_cons_succ, List.getD_cons_zero] <;> rfl)) ?_) | (refine plan_pick_f _ _ _ _ (by rfl) (by rfl) (by rfl) (by first | (with_reducible exact Mem.ev_const _ _) | (with_reducible exact Mem.ev_zero _ _ _) | (with_reducible (apply Eq.trans (Mem.ev_tmp _ _ _)); simp only [List.getD_cons_succ, List.getD_cons_zero] <;> rfl)) (by first | (with_reducible exact Mem.ev_const _ _) | (with_reducible exact Mem.ev_zero _ _ _) | (with_reducible (apply Eq.trans (Mem.ev_tmp _ _ _)); simp only [List.getD_cons_succ, List.getD_cons_zero] <;> rfl)) ?_))
    (simp only [Act.put, List.setIfInBounds_toArray, List.set_cons_zero, List.set_cons_succ])
    refine plan_nil ?_
    go_wp2_with fail
    try simp only [Exit.inBlock, Exit.then]
    refine ret_row_row_tmp (by rfl) (w.heap.size + 1) (w.heap.size + 2) 24 24 M1 M2 _ _ (.int .i64 0) (by rfl) (by rfl) (by rfl) (K1.out.row_other M2 (by omega)) (K2.out.row M2) Tryd.underlying24 (by rfl) (by rw [S1.out]; exact infoDg) Tryd.underlying24 (by rfl) (by rw [S2.out]; exact infoDg) ?_
    exact ⟨by rw [HM1.out, HM2.out], below_row (below_row B4.out (Nat.le_succ _) M1) (Nat.le_add_right _ _) M2⟩
end Sha
end Go.Proofs.YtjadjidjfkahpaaDoor
namespace Go.Proofs.YtjadjidjfkahpaaDoor
namespace Sha
open Go.RowKit Mem
set_option maxRecDepth 100000
set_option maxHeartbeats 4000000 in
theorem pwrap_any (p s : List (BitVec 8)) (ls : s.length = 16) (r : Int) (h0 : -9223372036854775808 ≤ r) (h1 : r ≤ 9223372036854775807) (m : List (BitVec 8)) (lm : m.length = 32) (v : Value) (w : World) (hp : Sl w v p) (lp : p.length ≤ 1000000) (hL : Tabs w) (hT' : CTabs w) :
    Calls Tryd.prog 9 #[v, .agg (u8s s).toArray, .int .i64 r, .agg (u8s m).toArray] w (WrapEnd w (wrapR p s r m).1 (wrapR p s r m).2) := by
  have half := fun wx (h : Below w.heap.size w wx) => phalves_any p s ls r v wx (hp.below h) lp (hL.below h (Nat.le_refl _))
  obtain ⟨Z, hZ⟩ : ∃ Z, Z = (u8s z32).toArray := ⟨_, rfl⟩
  have zs : Z.size = 32 := by rw [hZ]; simp [z32, u8s_length]
  obtain ⟨ZW, hZW⟩ : ∃ Z, Z = wrC zwr := ⟨_, rfl⟩
  have zws : ZW.size = 81 := by rw [hZW]; exact wrC_size zwr_wf
  have zwo : ZW.all (·.oneCell') = true := by rw [hZW]; exact wrC_one _
  have hx : ∀ w, (zeroValue 24).run Tryd.prog w = .ok (.agg Z) w := by rw [hZ]; exact zeroK32
  have hxw : ∀ w, (zeroValue 30).run Tryd.prog w = .ok (.agg ZW) w := by rw [hZW]; exact zeroWrP
  have bn : ∀ w, (Instr.build 30 #[]).run Tryd.prog w = .ok (.agg ZW) w := by rw [hZW]; exact buildWP0
  obtain ⟨CS, hCS⟩ : ∃ C, C = (u8s s).toArray := ⟨_, rfl⟩
  have css : CS.size = 16 := by rw [hCS]; simp [u8s_length, ls]
  obtain ⟨CM, hCM⟩ : ∃ C, C = (u8s m).toArray := ⟨_, rfl⟩
  have cms : CM.size = 32 := by rw [hCM]; simp [u8s_length, lm]
  obtain ⟨w1, hw1⟩ : ∃ w1, w1 = (((w.alloc (.cells CS 23)).alloc (.cells CM 24)).alloc (.cells ZW 30)) := ⟨_, rfl⟩
  have a0 : At w1 w.heap.size CS 23 := by rw [hw1]; exact ((at_new w _ _).alloc _).alloc _
  have a1 : At w1 (w.heap.size + 1) CM 24 := by
    rw [hw1]
    have h := (at_new (w.alloc (.cells CS 23)) CM 24).alloc (.cells ZW 30)
    simpa using h
  have a2 : At w1 (w.heap.size + 2) ZW 30 := by
    rw [hw1]
    have h := at_new ((w.alloc (.cells CS 23)).alloc (.cells CM 24)) ZW 30
    simpa using h
  have b1 : Below w.heap.size w w1 := by rw [hw1]; exact (((Below.refl _ _).alloc (Nat.le_refl _) _).alloc (by simp) _).alloc (by simp; omega) _
  rw [← hCS] at half ⊢
  have la : (halvesR p s r).1.length = 32 := by unfold halvesR; split; rfl; exact half1_length _ _ _
  have lb : (halvesR p s r).2.1.length = 32 := by unfold halvesR; split; rfl; exact half2_length _ _ _
  have hcase : ((halvesR p s r).2.2 = 1 ∧ wrapR p s r m = (zwr, 1)) ∨ ((halvesR p s r).2.2 = 0 ∧ 0 ≤ r ∧ r ≤ 100 ∧ wrapR p s r m = (⟨s, r, turnK (halvesR p s r).1 m, ckK (halvesR p s r).2.1 s r (turnK (halvesR p s r).1 m)⟩, 0)) := by
    cases hb : rBad r
    · have hr : ¬ (r < 1 ∨ 100 < r) := fun h => by rw [(rBad_iff r).2 h] at hb; cases hb
      refine .inr ⟨by unfold halvesR; rw [hb]; rfl, by omega, by omega, ?_⟩
      unfold wrapR halvesR wrapV
      rw [hb]
      rfl
    · exact .inl ⟨by unfold halvesR; rw [if_pos hb], by unfold wrapR; rw [if_pos hb]⟩
  obtain ⟨ha, hha⟩ : ∃ x, x = (halvesR p s r).1 := ⟨_, rfl⟩
  obtain ⟨hb, hhb⟩ : ∃ x, x = (halvesR p s r).2.1 := ⟨_, rfl⟩
  obtain ⟨n, hn⟩ : ∃ x, x = (halvesR p s r).2.2 := ⟨_, rfl⟩
  rw [← hha, ← hhb, ← hn] at half hcase
  rw [← hha] at la
  rw [← hhb] at lb
  obtain ⟨MA, hMA⟩ : ∃ M, M = (u8s ha).toArray := ⟨_, rfl⟩
  obtain ⟨MB, hMB⟩ : ∃ M, M = (u8s hb).toArray := ⟨_, rfl⟩
  have mas : MA.size = 32 := by rw [hMA]; simp [u8s_length, la]
  have mbs : MB.size = 32 := by rw [hMB]; simp [u8s_length, lb]
  have mao : MA.all (·.oneCell') = true := by rw [hMA]; exact u8s_one _
  have mbo : MB.all (·.oneCell') = true := by rw [hMB]; exact u8s_one _
  have hlf : ∀ wx, Below w.heap.size w wx → Calls Tryd.prog 11 #[v, .agg CS, .int .i64 r] wx fun e w' => e = .returned (.tuple #[.agg MA, .agg MB, .int .i64 n]) ∧ Below wx.heap.size wx w' := fun wx h => by rw [hMA, hMB]; exact half wx h
  clear half hn hha hhb
  have tk := fun wx (h : Below w.heap.size w wx) => pturnK_any ha m la lm wx (hT'.below h (Nat.le_refl _))
  have lt := turnK_length ha m
  rw [lm] at lt
  obtain ⟨K, hK⟩ : ∃ K, K = turnK ha m := ⟨_, rfl⟩
  rw [← hK] at tk lt hcase
  have ck := fun (k : Nat) (hk : r = (k : Int)) (g1 : k ≤ 100) wx => pchecked_any ⟨s, r, K, z32⟩ (wr_mk s r K z32 ls lt rfl h0 h1) k hk g1 wx
  simp only at ck
  have ms := fun (k : Nat) (_ : r = (k : Int)) (vk vp : Value) wx (h1 : Sl wx vk hb) (h2 : Sls wx vp [s, rb4 (k : Int), K]) (h3 : Below w.heap.size w wx) => mac_any hb [s, rb4 (k : Int), K] vk vp wx h1 h2 (by omega) (by simp [ls, lt, rb4]) (by simp) (hL.below h3 (Nat.le_refl _))
  have lck := ckK_length hb s r K
  obtain ⟨T, hT⟩ : ∃ T, T = ckK hb s r K := ⟨_, rfl⟩
  have ms2 : ∀ (k : Nat) (_ : r = (k : Int)) (vk vp : Value) wx, Sl wx vk hb → Sls wx vp [s, rb4 (k : Int), K] → Below w.heap.size w wx → Calls Tryd.prog 19 #[vk, vp] wx fun e w' => e = .returned (.agg (u8s T).toArray) ∧ Below wx.heap.size wx w' := fun k hk vk vp wx h1 h2 h3 => by
    have h := ms k hk vk vp wx h1 h2 h3
    have e : mcOf hb [s, rb4 (k : Int), K].flatten = (u8s T).toArray := by rw [hT, ← hk]; simp [mcOf, ckK]
    rw [e] at h; exact h
  clear ms
  rw [← hT] at lck hcase
  obtain ⟨MK, hMK⟩ : ∃ M, M = (u8s K).toArray := ⟨_, rfl⟩
  obtain ⟨MT, hMT⟩ : ∃ M, M = (u8s T).toArray := ⟨_, rfl⟩
  have mts : MT.size = 32 := by rw [hMT]; simp [u8s_length, lck]
  have mto : MT.all (·.oneCell') = true := by rw [hMT]; exact u8s_one _
  have bw := fun wx => buildWP3 s r K ls lt wx
  have wf0 := wr_mk s r K z32 ls lt rfl h0 h1
  have wf1 := wr_mk s r K T ls lt lck h0 h1
  obtain ⟨W0, hW0⟩ : ∃ W, W = wrC ⟨s, r, K, z32⟩ := ⟨_, rfl⟩
  obtain ⟨W1, hW1⟩ : ∃ W, W = wrC ⟨s, r, K, T⟩ := ⟨_, rfl⟩
  have w0s : W0.size = 81 := by rw [hW0]; exact wrC_size wf0
  have w1s : W1.size = 81 := by rw [hW1]; exact wrC_size wf1
  have w0o : W0.all (·.oneCell') = true := by rw [hW0]; exact wrC_one _
  have w1o : W1.all (·.oneCell') = true := by rw [hW1]; exact wrC_one _
  have hset : Mem.splice W0 49 MT.toList = W1 := by rw [hW0, hMT, hW1]; exact wr_setck wf0 T lck
  rw [← hCS, ← hMK, ← hW0] at bw
  rw [← hMT] at ms2
  rw [← hW0] at ck
  have slb : ∀ wx b, At wx b MB 24 → Sl wx (.slice (some ⟨b, 0, none⟩) 32 32) hb := fun wx b h => by rw [hMB] at h; exact at_sl h lb
  rw [← hMA, ← hCM, ← hMK] at tk
  rw [← hCM]
  have al : ∀ w : World, (Instr.alloc 30 true (.tuple #[])).run Tryd.prog w = .ok (.pointer (some ⟨w.heap.size, 0, none⟩)) (w.alloc (.cells ZW 30)) := by rw [hZW]; exact fun w => by kernel_rfl
  obtain ⟨PR, hPR⟩ : ∃ PR, PR = wrapR p s r m := ⟨_, rfl⟩
  rw [← hPR] at hcase ⊢
  have hcase2 : (n = 1 ∧ wrC PR.1 = ZW ∧ PR.2 = 1) ∨ (n = 0 ∧ 0 ≤ r ∧ r ≤ 100 ∧ wrC PR.1 = W1 ∧ PR.2 = 0) := by
    rcases hcase with ⟨h1, h2⟩ | ⟨h1, h2, h3, h4⟩
    · exact .inl ⟨h1, by rw [h2, hZW], by rw [h2]⟩
    · exact .inr ⟨h1, h2, h3, by rw [h4, hW1], by rw [h4]⟩
  have ZS := Lib.hid zs; have ZWS := Lib.hid zws; have ZWO := Lib.hid zwo; have BN := Lib.hid bn; have CSS := Lib.hid css; have CMS := Lib.hid cms; have A0 := Lib.hid a0; have A1 := Lib.hid a1; have A2 := Lib.hid a2; have B1 := Lib.hid b1; have HALF := Lib.hid hlf; have MAS := Lib.hid mas; have MBS := Lib.hid mbs; have MAO := Lib.hid mao; have MBO := Lib.hid mbo; have TK := Lib.hid tk; have CK := Lib.hid ck; have MSUM := Lib.hid ms2; have SLB := Lib.hid slb; have MTS := Lib.hid mts; have MTO := Lib.hid mto; have BW := Lib.hid bw; have W0S := Lib.hid w0s; have W1S := Lib.hid w1s; have W0O := Lib.hid w0o; have W1O := Lib.hid w1o; have SET := Lib.hid hset; have AL := Lib.hid al; have HC := Lib.hid hcase2
  clear zs zws zwo bn css cms a0 a1 a2 b1 hlf mas mbs mao mbo tk ck ms2 slb mts mto bw wf0 wf1 w0s w1s w0o w1o hset al hcase hcase2 hZ hZW hCS hCM hMA hMB hK hT hMK hMT hW0 hW1 hPR hp lp ls lm la lb lt lck h0 h1 hL hT'
  go_enter Tryd.func9, Tryd.ntmps9
  go_upto_region 1 with fail
  rw [← hw1]
  clear hw1
  go_wp2_with (refine wpList_load_all (by rfl) 23 _ (by rfl) w.heap.size (by rfl) _ Tryd.underlying23 (by rfl) CS _ A0.out (by rw [CSS.out]; exact infoS16) ?_)
  refine (HALF.out w1 B1.out).mono ?_
  rintro e w2 ⟨rfl, hb2⟩
  have HL : Hid (w.heap.size + 2 < w2.heap.size) := Lib.hid (A2.out.below hb2 A2.out.lt).lt
  have X0 := Lib.hid (((A0.out.below hb2 A0.out.lt).alloc (.cells Z 24)).alloc (.cells Z 24)); have X1 := Lib.hid (((A1.out.below hb2 A1.out.lt).alloc (.cells Z 24)).alloc (.cells Z 24)); have X2 := Lib.hid (((A2.out.below hb2 A2.out.lt).alloc (.cells Z 24)).alloc (.cells Z 24))
  have B2 := Lib.hid (B1.out.trans (hb2.mono B1.out.size))
  have A10 : Hid (At ((w2.alloc (.cells Z 24)).alloc (.cells Z 24)) w2.heap.size Z 24) := Lib.hid ((at_new w2 Z _).alloc _)
  have A11 : Hid (At ((w2.alloc (.cells Z 24)).alloc (.cells Z 24)) (w2.heap.size + 1) Z 24) := Lib.hid (by have h := at_new (w2.alloc (.cells Z 24)) Z 24; simpa using h)
  have B3 : Hid (Below w.heap.size w ((w2.alloc (.cells Z 24)).alloc (.cells Z 24))) := Lib.hid ((B2.out.alloc B2.out.size _).alloc (by have := B2.out.size; simp; omega) _)
  clear hb2 A0 A1 A2 B1 B2 HALF
  go_upto_region 2 with (first
    | (refine wpList_store_all (by rfl) 24 _ _ (by rfl) (by rfl) w2.heap.size MA (by rfl) (by rfl) (by rw [MAS.out]; exact infoDg) Z _ A10.out (by rw [MAS.out, ZS.out]) MAO.out ?_)
    | (refine wpList_store_all (by rfl) 24 _ _ (by rfl) (by rfl) (w2.heap.size + 1) MB (by rfl) (by rfl) (by rw [MBS.out]; exact infoDg) Z _ (A11.out.row_other MA (by omega)) (by rw [MBS.out, ZS.out]) MBO.out ?_))
  clear hx
  obtain ⟨g, hg⟩ : ∃ g, g = w2.heap.size := ⟨_, rfl⟩
  rw [← hg] at A10 A11 HL ⊢
  have Y0 := Lib.hid ((X0.out.row_other (g := g) MA (by have := HL.out; omega)).row_other (g := g + 1) MB (by have := HL.out; omega)); have Y1 := Lib.hid ((X1.out.row_other (g := g) MA (by have := HL.out; omega)).row_other (g := g + 1) MB (by have := HL.out; omega)); have Y2 := Lib.hid ((X2.out.row_other (g := g) MA (by have := HL.out; omega)).row_other (g := g + 1) MB (by have := HL.out; omega))
  have Y10 := Lib.hid ((A10.out.row MA).row_other (g := g + 1) MB (by omega)); have Y11 := Lib.hid ((A11.out.row_other (g := g) MA (by omega)).row MB)
  have BQ := Lib.hid (below_row (below_row B3.out (g := g) (by have := HL.out; omega) MA) (g := g + 1) (by have := HL.out; omega) MB)
  clear X0 X1 X2 A10 A11 B3 hg
  generalize ((((w2.alloc (.cells Z 24)).alloc (.cells Z 24)).setRow g MA).setRow (g + 1) MB) = wq at *
  rcases HC.out with ⟨rfl, e1, e2⟩ | ⟨rfl, g0, g1, e1, e2⟩
  · clear hxw
    go_wp2_with (first
      | (refine Mem.wpList_build (by rfl) 30 _ #[] (.agg ZW) (by rfl) (by simp) BN.out ?_)
      | (refine wpList_store_all (by rfl) 30 _ _ (by rfl) (by rfl) (w.heap.size + 2) ZW (by rfl) (by rfl) (by rw [ZWS.out]; exact infoWrP) ZW _ Y2.out (by rfl) ZWO.out ?_))
    try simp only [Exit.inBlock, Exit.then]
    refine ret_row_tmp (by rfl) (w.heap.size + 2) 30 ZW _ (.int .i64 1) (by rfl) (by rfl) (Y2.out.row ZW) Tryd.underlying30 (by rfl) (by rw [ZWS.out]; exact infoWrP) ?_
    exact ⟨by first | rw [e1, e2] | rw [e1], below_row BQ.out (Nat.le_add_right _ _) ZW⟩
  · obtain ⟨k, hk⟩ : ∃ k : Nat, r = (k : Int) := ⟨r.toNat, by omega⟩
    have CKC := Lib.hid (CK.out k hk (by omega)); have MSC := Lib.hid (MSUM.out k hk)
    clear CK MSUM g0 g1 hk
    go_upto_region 4 with fail
    clear hxw
    go_cut [13] (fun t wx => ∃ gw, .pointer (some ⟨gw, 0, none⟩) = t ∧ At wx gw W0 30 ∧ wq.heap.size ≤ gw ∧ Below wq.heap.size wq wx)
    case first =>
      have D0 : Hid (Below wq.heap.size wq wq.drew) := Lib.hid (Below.refl _ _).drew
      refine wp_region_plan_in (fun x => Below wq.heap.size wq x) (.take 0 (.take 1 (.take 2 (.take 3 (.two 4 6 (.take 5 (.sole 6 (.sole 7 .done))) (.sole 4 (.take 5 (.sole 7 .done)))))))) (by kernel_rfl) (by kernel_rfl) (by kernel_rfl) D0.out ?_
      refine plan_row 23 _ w.heap.size _ CS 23 (by rfl) (by rfl) (by rfl) (by first | (with_reducible exact Mem.ev_const _ _) | (with_reducible exact Mem.ev_zero _ _ _) | (with_reducible (apply Eq.trans (Mem.ev_tmp _ _ _)); simp only [List.getD_cons_succ, List.getD_cons_zero] <;> rfl)) (fun w' hw' => Y0.out.below hw' Y0.out.lt) Tryd.underlying23 (by rfl) (by rw [CSS.out]; exact infoS16) ?_
      (simp only [Act.put, List.setIfInBounds_toArray, List.set_cons_zero, List.set_cons_succ])
      (first | (refine plan_move _ _ (by rfl) (by rfl) (.inl (by rfl)) (by first | (with_reducible exact Mem.ev_const _ _) | (with_reducible exact Mem.ev_zero _ _ _) | (with_reducible (apply Eq.trans (Mem.ev_tmp _ _ _)); simp only [List.getD_cons_succ, List.getD_cons_zero] <;> rfl)) ?_) | (refine plan_move _ _ (by rfl) (by rfl) (.inr (by rfl)) (by first | (with_reducible exact Mem.ev_const _ _) | (with_reducible exact Mem.ev_zero _ _ _) | (with_reducible (apply Eq.trans (Mem.ev_tmp _ _ _)); simp only [List.getD_cons_succ, List.getD_cons_zero] <;> rfl)) ?_) | (refine plan_pick_t _ _ _ _ (by rfl) (by rfl) (by rfl) (by first | (with_reducible exact Mem.ev_const _ _) | (with_reducible exact Mem.ev_zero _ _ _) | (with_reducible (apply Eq.trans (Mem.ev_tmp _ _ _)); simp only [List.getD_cons_succ, List.getD_cons_zero] <;> rfl)) (by first | (with_reducible exact Mem.ev_const _ _) | (with_reducible exact Mem.ev_zero _ _ _) | (with_reducible (apply Eq.trans (Mem.ev_tmp _ _ _)); simp only [List.getD_cons_succ, List.getD_cons_zero] <;> rfl)) ?_) | (refine plan_pick_f _ _ _ _ (by rfl) (by rfl) (by rfl) (by first | (with_reducible exact Mem.ev_const _ _) | (with_reducible exact Mem.ev_zero _ _ _) | (with_reducible (apply Eq.trans (Mem.ev_tmp _ _ _)); simp only [List.getD_cons_succ, List.getD_cons_zero] <;> rfl)) (by first | (with_reducible exact Mem.ev_const _ _) | (with_reducible exact Mem.ev_zero _ _ _) | (with_reducible (apply Eq.trans (Mem.ev_tmp _ _ _)); simp only [List.getD_cons_succ, List.getD_cons_zero] <;> rfl)) ?_))
      (simp only [Act.put, List.setIfInBounds_toArray, List.set_cons_zero, List.set_cons_succ])
      refine plan_row 24 _ g _ MA 24 (by rfl) (by rfl) (by rfl) (by first | (with_reducible exact Mem.ev_const _ _) | (with_reducible exact Mem.ev_zero _ _ _) | (with_reducible (apply Eq.trans (Mem.ev_tmp _ _ _)); simp only [List.getD_cons_succ, List.getD_cons_zero] <;> rfl)) (fun w' hw' => Y10.out.below hw' Y10.out.lt) Tryd.underlying24 (by rfl) (by rw [MAS.out]; exact infoDg) ?_
      (simp only [Act.put, List.setIfInBounds_toArray, List.set_cons_zero, List.set_cons_succ])
      refine plan_row 24 _ (w.heap.size + 1) _ CM 24 (by rfl) (by rfl) (by rfl) (by first | (with_reducible exact Mem.ev_const _ _) | (with_reducible exact Mem.ev_zero _ _ _) | (with_reducible (apply Eq.trans (Mem.ev_tmp _ _ _)); simp only [List.getD_cons_succ, List.getD_cons_zero] <;> rfl)) (fun w' hw' => Y1.out.below hw' Y1.out.lt) Tryd.underlying24 (by rfl) (by rw [CMS.out]; exact infoDg) ?_
      (simp only [Act.put, List.setIfInBounds_toArray, List.set_cons_zero, List.set_cons_succ])
      refine plan_two ?_ ?_
      · refine plan_call 18 _ _ _ (by kernel_rfl) (by rfl) (by rfl) (by rfl) (by first | exact Mem.ev_none _ | (simp only [List.map_toArray, List.map_cons, List.map_nil, Mem.ev_tmp, List.getD_cons_succ, List.getD_cons_zero] <;> rfl)) ?_
        refine (TK.out _ (BQ.out.trans (D0.out.mono BQ.out.size))).mono ?_
        rintro o3 w3 ⟨rfl, hb⟩
        have D1 : Hid (Below wq.heap.size wq w3) := Lib.hid (D0.out.trans (hb.mono D0.out.size))
        clear hb
        refine ⟨_, rfl, D1.out, ?_⟩
        (simp only [Act.put, List.setIfInBounds_toArray, List.set_cons_zero, List.set_cons_succ])
        refine plan_build 30 _ #[(0, .agg CS), (1, .int .i64 r), (2, .agg MK)] (.agg W0) (by rfl) (by rfl) (by rfl) (by first | rfl | simp [Act.eval]) (fun wx => BW.out wx) ?_
        (simp only [Act.put, List.setIfInBounds_toArray, List.set_cons_zero, List.set_cons_succ])
        refine plan_alloc _ ZW (by rfl) (by rfl) (by rfl) AL.out (D1.out.alloc D1.out.size _) ?_
        have GL : Hid (wq.heap.size ≤ w3.heap.size) := Lib.hid D1.out.size
        have D2 : Hid (Below wq.heap.size wq (w3.alloc (.cells ZW 30))) := Lib.hid (D1.out.alloc D1.out.size _)
        have AG := Lib.hid (at_new w3 ZW 30)
        (simp only [Act.put, List.setIfInBounds_toArray, List.set_cons_zero, List.set_cons_succ])
        refine plan_store 30 _ _ w3.heap.size W0 ZW 30 (by rfl) (by rfl) (by rfl) (by rfl) (by first | (with_reducible exact Mem.ev_const _ _) | (with_reducible exact Mem.ev_zero _ _ _) | (with_reducible (apply Eq.trans (Mem.ev_tmp _ _ _)); simp only [List.getD_cons_succ, List.getD_cons_zero] <;> rfl)) (by first | (with_reducible exact Mem.ev_const _ _) | (with_reducible exact Mem.ev_zero _ _ _) | (with_reducible (apply Eq.trans (Mem.ev_tmp _ _ _)); simp only [List.getD_cons_succ, List.getD_cons_zero] <;> rfl)) (by rw [W0S.out]; exact infoWrP) AG.out (by rw [W0S.out, ZWS.out]) W0O.out (below_row D2.out GL.out W0) ?_
        refine plan_nil ?_
        go_wp2_with fail
        go_meet
        exact ⟨_, rfl, AG.out.row W0, GL.out, below_row D2.out GL.out W0⟩
      · refine plan_alloc _ ZW (by rfl) (by rfl) (by rfl) AL.out (D0.out.alloc D0.out.size _) ?_
        have GL : Hid (wq.heap.size ≤ wq.drew.heap.size) := Lib.hid D0.out.size
        have D2 : Hid (Below wq.heap.size wq (wq.drew.alloc (.cells ZW 30))) := Lib.hid (D0.out.alloc D0.out.size _)
        have AG := Lib.hid (at_new wq.drew ZW 30)
        (simp only [Act.put, List.setIfInBounds_toArray, List.set_cons_zero, List.set_cons_succ])
        refine plan_call 18 _ _ _ (by kernel_rfl) (by rfl) (by rfl) (by rfl) (by first | exact Mem.ev_none _ | (simp only [List.map_toArray, List.map_cons, List.map_nil, Mem.ev_tmp, List.getD_cons_succ, List.getD_cons_zero] <;> rfl)) ?_
        refine (TK.out _ (BQ.out.trans (D2.out.mono BQ.out.size))).mono ?_
        rintro o3 w3 ⟨rfl, hb⟩
        have D3 : Hid (Below wq.heap.size wq w3) := Lib.hid (D2.out.trans (hb.mono D2.out.size)); have AG2 := Lib.hid (AG.out.below hb AG.out.lt)
        clear hb
        refine ⟨_, rfl, D3.out, ?_⟩
        (simp only [Act.put, List.setIfInBounds_toArray, List.set_cons_zero, List.set_cons_succ])
        refine plan_build 30 _ #[(0, .agg CS), (1, .int .i64 r), (2, .agg MK)] (.agg W0) (by rfl) (by rfl) (by rfl) (by first | rfl | simp [Act.eval]) (fun wx => BW.out wx) ?_
        (simp only [Act.put, List.setIfInBounds_toArray, List.set_cons_zero, List.set_cons_succ])
        refine plan_store 30 _ _ wq.drew.heap.size W0 ZW 30 (by rfl) (by rfl) (by rfl) (by rfl) (by first | (with_reducible exact Mem.ev_const _ _) | (with_reducible exact Mem.ev_zero _ _ _) | (with_reducible (apply Eq.trans (Mem.ev_tmp _ _ _)); simp only [List.getD_cons_succ, List.getD_cons_zero] <;> rfl)) (by first | (with_reducible exact Mem.ev_const _ _) | (with_reducible exact Mem.ev_zero _ _ _) | (with_reducible (apply Eq.trans (Mem.ev_tmp _ _ _)); simp only [List.getD_cons_succ, List.getD_cons_zero] <;> rfl)) (by rw [W0S.out]; exact infoWrP) AG2.out (by rw [W0S.out, ZWS.out]) W0O.out (below_row D3.out GL.out W0) ?_
        refine plan_nil ?_
        go_wp2_with fail
        go_meet
        exact ⟨_, rfl, AG2.out.row W0, GL.out, below_row D3.out GL.out W0⟩
    case rest =>
      obtain ⟨gw, rfl, hga, hgl, hgb⟩ := hcut
      have GA := Lib.hid hga; have GL := Lib.hid hgl; have GB := Lib.hid hgb
      have Z11 := Lib.hid (Y11.out.below hgb Y11.out.lt); have Z2 := Lib.hid (Y2.out.below hgb Y2.out.lt)
      have QL : Hid (w.heap.size + 2 < wq.heap.size) := Lib.hid Y2.out.lt
      clear hga hgl hgb Y0 Y1 Y2 Y10 Y11
      have E0 : Hid (Below w.heap.size w wc.drew) := Lib.hid (BQ.out.trans (GB.out.mono BQ.out.size)).drew
      have C0 : Hid (Below wc.heap.size wc wc.drew) := Lib.hid (Below.refl _ _).drew
      have HGW : Hid (w.heap.size + 2 < gw) := Lib.hid (by have h1 := QL.out; have h2 := GL.out; omega)
      go_wp2_with fail
      refine wp_region_plan_in (fun _ => True) (.take 0 (.sole 1 (.sole 2 (.sole 3 (.take 4 (.sole 5 .done)))))) (by kernel_rfl) (by kernel_rfl) (by kernel_rfl) trivial ?_
      refine plan_cut 24 _ 32 5 (g + 1) 0 (by rfl) (by rfl) (by rfl) (by first | (with_reducible exact Mem.ev_const _ _) | (with_reducible exact Mem.ev_zero _ _ _) | (with_reducible (apply Eq.trans (Mem.ev_tmp _ _ _)); simp only [List.getD_cons_succ, List.getD_cons_zero] <;> rfl)) Tryd.underlying24 infoB ?_
      (simp only [Act.put, List.setIfInBounds_toArray, List.set_cons_zero, List.set_cons_succ])
      refine plan_sole_row 30 _ gw _ W0 30 (by rfl) (by rfl) (by rfl) (by first | (with_reducible exact Mem.ev_const _ _) | (with_reducible exact Mem.ev_zero _ _ _) | (with_reducible (apply Eq.trans (Mem.ev_tmp _ _ _)); simp only [List.getD_cons_succ, List.getD_cons_zero] <;> rfl)) (GA.out.below C0.out GA.out.lt) Tryd.underlying30 (by rfl) (by rw [W0S.out]; exact infoWrP) trivial ?_
      (simp only [Act.put, List.setIfInBounds_toArray, List.set_cons_zero, List.set_cons_succ])
      refine plan_call 20 _ _ _ (by kernel_rfl) (by rfl) (by rfl) (by rfl) (by first | exact Mem.ev_none _ | (simp only [List.map_toArray, List.map_cons, List.map_nil, Mem.ev_tmp, List.getD_cons_succ, List.getD_cons_zero] <;> rfl)) ?_
      refine (CKC.out _).mono ?_
      rintro o5 w5 ⟨v5, rfl, hs5, hb⟩
      have C5 : Hid (Below wc.heap.size wc w5) := Lib.hid (C0.out.trans (hb.mono C0.out.size)); have E5 := Lib.hid (E0.out.trans (hb.mono E0.out.size)); have S5 := Lib.hid hs5
      clear hb hs5
      refine ⟨_, rfl, trivial, ?_⟩
      (simp only [Act.put, List.setIfInBounds_toArray, List.set_cons_zero, List.set_cons_succ])
      refine plan_call 19 _ _ _ (by kernel_rfl) (by rfl) (by rfl) (by rfl) (by first | exact Mem.ev_none _ | (simp only [List.map_toArray, List.map_cons, List.map_nil, Mem.ev_tmp, List.getD_cons_succ, List.getD_cons_zero] <;> rfl)) ?_
      refine (MSC.out _ _ w5 (SLB.out _ _ (Z11.out.below C5.out Z11.out.lt)) S5.out E5.out).mono ?_
      rintro o6 w6 ⟨rfl, hb⟩
      have C6 : Hid (Below wc.heap.size wc w6) := Lib.hid (C5.out.trans (hb.mono C5.out.size)); have E6 := Lib.hid (E5.out.trans (hb.mono E5.out.size))
      clear hb
      refine ⟨_, rfl, trivial, ?_⟩
      (simp only [Act.put, List.setIfInBounds_toArray, List.set_cons_zero, List.set_cons_succ])
      refine plan_field 30 _ 3 gw 0 ⟨gw, 49, none⟩ (by rfl) (by rfl) (by rfl) (by first | (with_reducible exact Mem.ev_const _ _) | (with_reducible exact Mem.ev_zero _ _ _) | (with_reducible (apply Eq.trans (Mem.ev_tmp _ _ _)); simp only [List.getD_cons_succ, List.getD_cons_zero] <;> rfl)) (fun wx => by go_simp) ?_
      (simp only [Act.put, List.setIfInBounds_toArray, List.set_cons_zero, List.set_cons_succ])
      refine plan_store_at 24 _ _ gw 49 MT W0 W1 30 (by rfl) (by rfl) (by rfl) (by rfl) (by first | (with_reducible exact Mem.ev_const _ _) | (with_reducible exact Mem.ev_zero _ _ _) | (with_reducible (apply Eq.trans (Mem.ev_tmp _ _ _)); simp only [List.getD_cons_succ, List.getD_cons_zero] <;> rfl)) (by first | (with_reducible exact Mem.ev_const _ _) | (with_reducible exact Mem.ev_zero _ _ _) | (with_reducible (apply Eq.trans (Mem.ev_tmp _ _ _)); simp only [List.getD_cons_succ, List.getD_cons_zero] <;> rfl)) (by rw [MTS.out]; exact infoDg) (GA.out.below C6.out GA.out.lt) (by rw [MTS.out, W0S.out]; decide) MTO.out SET.out trivial ?_
      refine plan_nil ?_
      have GA7 := Lib.hid ((GA.out.below C6.out GA.out.lt).row W1); have Z7 := Lib.hid ((Z2.out.below C6.out Z2.out.lt).row_other (g := gw) W1 (by have := HGW.out; omega)); have E7 := Lib.hid (below_row E6.out (g := gw) (by have := HGW.out; omega) W1)
      clear GA Z2 Z11 E0 E5 E6 C0 C5 C6 S5
      go_wp2_with (first
        | (refine wpList_load_all (by rfl) 30 _ (by rfl) gw (by rfl) _ Tryd.underlying30 (by rfl) W1 _ GA7.out (by rw [W1S.out]; exact infoWrP) ?_)
        | (refine wpList_store_all (by rfl) 30 _ _ (by rfl) (by rfl) (w.heap.size + 2) W1 (by rfl) (by rfl) (by rw [W1S.out]; exact infoWrP) ZW _ Z7.out (by rw [W1S.out, ZWS.out]) W1O.out ?_))
      try simp only [Exit.inBlock, Exit.then]
      refine ret_row_tmp (by rfl) (w.heap.size + 2) 30 W1 _ (.int .i64 0) (by rfl) (by rfl) (Z7.out.row W1) Tryd.underlying30 (by rfl) (by rw [W1S.out]; exact infoWrP) ?_
      exact ⟨by first | rw [e1, e2] | rw [e1], below_row E7.out (Nat.le_add_right _ _) W1⟩
end Sha
end Go.Proofs.YtjadjidjfkahpaaDoor
namespace Go.Proofs.YtjadjidjfkahpaaDoor
namespace Sha
open Go.RowKit Mem
set_option maxRecDepth 100000
theorem sl_wc {w : World} {bx : Nat} {v : WrV} {t : TypeId} (hA : At w bx (wrC v) t) (h : v.Wf) : Sl w (.slice (some ⟨bx, 49, none⟩) 32 32) v.ck := by
  exact ⟨_, _, by rw [h.ck], by rw [h.ck]; exact Nat.le_refl _, fun _ => ⟨bx, 49, rfl, hA.lt, fun i hi => by
    rw [h.ck] at hi
    have e := u8s_get v.ck i (by rw [h.ck]; exact hi)
    rw [hA.cell, ← e]
    have e2 : (wrL v)[49 + i]? = ((wrL v).drop 49)[i]? := by rw [List.getElem?_drop]
    simp only [wrC, List.getElem?_toArray]
    rw [e2, wr_drop49 h]⟩⟩
set_option maxHeartbeats 4000000 in
theorem punwrap_any (p : List (BitVec 8)) (x : WrV) (hx' : x.Wf) (v : Value) (w : World) (hp : Sl w v p) (lp : p.length ≤ 1000000) (hL : Tabs w) (hT' : CTabs w) :
    Calls Tryd.prog 14 #[v, .agg (wrC x)] w (KeyEnd w (unwrapR p x).1 (unwrapR p x).2) := by
  have half := fun wx (h : Below w.heap.size w wx) => phalves_any p x.salt hx'.salt x.r v wx (hp.below h) lp (hL.below h (Nat.le_refl _))
  obtain ⟨Z, hZ⟩ : ∃ Z, Z = (u8s z32).toArray := ⟨_, rfl⟩
  have zs : Z.size = 32 := by rw [hZ]; simp [z32, u8s_length]
  have zo : Z.all (·.oneCell') = true := by rw [hZ]; exact u8s_one _
  have hx : ∀ w, (zeroValue 24).run Tryd.prog w = .ok (.agg Z) w := by rw [hZ]; exact zeroK32
  have bn : ∀ w, (Instr.build 24 #[]).run Tryd.prog w = .ok (.agg Z) w := by rw [hZ]; exact buildK0
  have c1 := wr_salt hx'
  have c2 := wr_r hx'
  have c3 := wr_key hx'
  have cvs := wrC_size hx'
  have la : (halvesR p x.salt x.r).1.length = 32 := by unfold halvesR; split; rfl; exact half1_length _ _ _
  have lb : (halvesR p x.salt x.r).2.1.length = 32 := by unfold halvesR; split; rfl; exact half2_length _ _ _
  have hcase : ((halvesR p x.salt x.r).2.2 = 1 ∧ unwrapR p x = (z32, 1)) ∨ ((halvesR p x.salt x.r).2.2 = 0 ∧ 0 ≤ x.r ∧ x.r ≤ 100 ∧
      (((ckK (halvesR p x.salt x.r).2.1 x.salt x.r x.key == x.ck) = false ∧ unwrapR p x = (z32, 10)) ∨ ((ckK (halvesR p x.salt x.r).2.1 x.salt x.r x.key == x.ck) = true ∧ unwrapR p x = (turnK (halvesR p x.salt x.r).1 x.key, 0)))) := by
    cases hb : rBad x.r
    · have hr : ¬ (x.r < 1 ∨ 100 < x.r) := fun h => by rw [(rBad_iff x.r).2 h] at hb; cases hb
      have e : halvesR p x.salt x.r = (half1 p x.salt x.r, half2 p x.salt x.r, 0) := by unfold halvesR; rw [hb]; rfl
      rw [e]
      refine .inr ⟨rfl, by omega, by omega, ?_⟩
      simp only
      unfold unwrapR
      rw [hb, if_neg (by decide)]
      by_cases hq : ckK (half2 p x.salt x.r) x.salt x.r x.key = x.ck
      · exact .inr ⟨beq_iff_eq.2 hq, by rw [if_neg (fun h => h hq)]⟩
      · exact .inl ⟨by rw [Bool.eq_false_iff]; exact fun h => hq (beq_iff_eq.1 h), by rw [if_pos hq]⟩
    · exact .inl ⟨by unfold halvesR; rw [if_pos hb], by unfold unwrapR; rw [if_pos hb]⟩
  obtain ⟨ha, hha⟩ : ∃ y, y = (halvesR p x.salt x.r).1 := ⟨_, rfl⟩
  obtain ⟨hb, hhb⟩ : ∃ y, y = (halvesR p x.salt x.r).2.1 := ⟨_, rfl⟩
  obtain ⟨n, hn⟩ : ∃ y, y = (halvesR p x.salt x.r).2.2 := ⟨_, rfl⟩
  rw [← hha, ← hhb, ← hn] at half hcase
  rw [← hha] at la
  rw [← hhb] at lb
  obtain ⟨MA, hMA⟩ : ∃ M, M = (u8s ha).toArray := ⟨_, rfl⟩
  obtain ⟨MB, hMB⟩ : ∃ M, M = (u8s hb).toArray := ⟨_, rfl⟩
  have mas : MA.size = 32 := by rw [hMA]; simp [u8s_length, la]
  have mbs : MB.size = 32 := by rw [hMB]; simp [u8s_length, lb]
  have mao : MA.all (·.oneCell') = true := by rw [hMA]; exact u8s_one _
  have mbo : MB.all (·.oneCell') = true := by rw [hMB]; exact u8s_one _
  have hlf : ∀ wx, Below w.heap.size w wx → Calls Tryd.prog 11 #[v, .agg (u8s x.salt).toArray, .int .i64 x.r] wx fun e w' => e = .returned (.tuple #[.agg MA, .agg MB, .int .i64 n]) ∧ Below wx.heap.size wx w' := fun wx h => by rw [hMA, hMB]; exact half wx h
  clear half hn hha hhb
  have tk := fun wx (h : Below w.heap.size w wx) => pturnK_any ha x.key la hx'.key wx (hT'.below h (Nat.le_refl _))
  have lt := turnK_length ha x.key
  rw [hx'.key] at lt
  obtain ⟨K, hK⟩ : ∃ K, K = turnK ha x.key := ⟨_, rfl⟩
  rw [← hK] at tk lt hcase
  have ck := fun (k : Nat) (hk : x.r = (k : Int)) (g1 : k ≤ 100) wx => pchecked_any x hx' k hk g1 wx
  have ms := fun (k : Nat) (_ : x.r = (k : Int)) (vk vm vp : Value) wx (h1 : Sl wx vk hb) (h4 : Sl wx vm x.ck) (h2 : Sls wx vp [x.salt, rb4 (k : Int), x.key]) (h3 : Below w.heap.size w wx) => check_any hb x.ck [x.salt, rb4 (k : Int), x.key] vk vm vp wx h1 h4 h2 (by omega) (by rw [hx'.ck]; decide) (by simp [hx'.salt, hx'.key, rb4]) (by simp) (hL.below h3 (Nat.le_refl _))
  have lck := ckK_length hb x.salt x.r x.key
  obtain ⟨T, hT⟩ : ∃ T, T = ckK hb x.salt x.r x.key := ⟨_, rfl⟩
  obtain ⟨MK, hMK⟩ : ∃ M, M = (u8s K).toArray := ⟨_, rfl⟩
  have mks : MK.size = 32 := by rw [hMK]; simp [u8s_length, lt]
  have mko : MK.all (·.oneCell') = true := by rw [hMK]; exact u8s_one _
  obtain ⟨MX, hMX⟩ : ∃ M, M = (u8s x.key).toArray := ⟨_, rfl⟩
  obtain ⟨CS, hCS⟩ : ∃ M, M = (u8s x.salt).toArray := ⟨_, rfl⟩
  obtain ⟨CV, hCV⟩ : ∃ M, M = wrC x := ⟨_, rfl⟩
  obtain ⟨r, hr⟩ : ∃ r, r = x.r := ⟨_, rfl⟩
  obtain ⟨q, hq⟩ : ∃ q : Bool, q = (T == x.ck) := ⟨_, rfl⟩
  rw [← hT, ← hq] at hcase
  have hCV_ := hCV.symm
  rw [← hCV] at c1 c2 c3 cvs
  rw [← hCS] at c1 hlf
  have ms2 : ∀ (k : Nat) (_ : r = (k : Int)) (vk vm vp : Value) wx, Sl wx vk hb → Sl wx vm x.ck → Sls wx vp [x.salt, rb4 (k : Int), x.key] → Below w.heap.size w wx → Calls Tryd.prog 27 #[vk, vm, vp] wx fun e w' => e = .returned (.bool q) ∧ Below wx.heap.size wx w' := fun k hk vk vm vp wx h1 h4 h2 h3 => by
    have hk2 := hk
    rw [hr] at hk2
    have h := ms k hk2 vk vm vp wx h1 h4 h2 h3
    have e : sameB (macOf hb [x.salt, rb4 (k : Int), x.key].flatten) x.ck = q := by rw [hq, hT, ← hk, hr]; simp [ckK, sameB]
    rw [e] at h; exact h
  clear ms
  have slb : ∀ wx b, At wx b MB 24 → Sl wx (.slice (some ⟨b, 0, none⟩) 32 32) hb := fun wx b h => by rw [hMB] at h; exact at_sl h lb
  have slc : ∀ wx b, At wx b (wrC x) 30 → Sl wx (.slice (some ⟨b, 49, none⟩) 32 32) x.ck := fun wx b h => sl_wc h hx'
  rw [hCV_] at slc
  rw [← hr] at c2 hlf hcase ck
  rw [← hMX] at c3 tk
  rw [← hCV] at ck
  rw [← hMA, ← hMK] at tk
  rw [← hCV]
  obtain ⟨PR, hPR⟩ : ∃ PR, PR = unwrapR p x := ⟨_, rfl⟩
  rw [← hPR] at hcase ⊢
  have hcase2 : (n = 1 ∧ (u8s PR.1).toArray = Z ∧ PR.2 = 1) ∨ (n = 0 ∧ 0 ≤ r ∧ r ≤ 100 ∧ ((q = false ∧ (u8s PR.1).toArray = Z ∧ PR.2 = 10) ∨ (q = true ∧ (u8s PR.1).toArray = MK ∧ PR.2 = 0))) := by
    rcases hcase with ⟨h1, h2⟩ | ⟨h1, h2, h3, ⟨h4, h5⟩ | ⟨h4, h5⟩⟩
    · exact .inl ⟨h1, by rw [h2, hZ], by rw [h2]⟩
    · exact .inr ⟨h1, h2, h3, .inl ⟨h4, by rw [h5, hZ], by rw [h5]⟩⟩
    · exact .inr ⟨h1, h2, h3, .inr ⟨h4, by rw [h5, hMK], by rw [h5]⟩⟩
  obtain ⟨w1, hw1⟩ : ∃ w1, w1 = ((w.alloc (.cells CV 30)).alloc (.cells Z 24)) := ⟨_, rfl⟩
  have a0 : At w1 w.heap.size CV 30 := by rw [hw1]; exact (at_new w _ _).alloc _
  have a1 : At w1 (w.heap.size + 1) Z 24 := by
    rw [hw1]
    have h := at_new (w.alloc (.cells CV 30)) Z 24
    simpa using h
  have b1 : Below w.heap.size w w1 := by rw [hw1]; exact ((Below.refl _ _).alloc (Nat.le_refl _) _).alloc (by simp) _
  have ZS := Lib.hid zs; have ZO := Lib.hid zo; have BN := Lib.hid bn; have A0 := Lib.hid a0; have A1 := Lib.hid a1; have B1 := Lib.hid b1; have HALF := Lib.hid hlf; have MAS := Lib.hid mas; have MBS := Lib.hid mbs; have MAO := Lib.hid mao; have MBO := Lib.hid mbo; have TK := Lib.hid tk; have CK := Lib.hid ck; have MSUM := Lib.hid ms2; have SLB := Lib.hid slb; have SLC := Lib.hid slc; have MKS := Lib.hid mks; have MKO := Lib.hid mko; have C1 := Lib.hid c1; have C2 := Lib.hid c2; have C3 := Lib.hid c3; have CVS := Lib.hid cvs; have HC := Lib.hid hcase2
  clear zs zo bn a0 a1 b1 hlf mas mbs mao mbo tk ck ms2 slb slc mks mko c1 c2 c3 cvs hcase hcase2 hZ hMA hMB hK hT hMK hMX hCS hCV hCV_ hr hq hPR hp lp la lb lt lck hx' hL hT'
  go_enter Tryd.func14, Tryd.ntmps14
  go_upto_region 1 with fail
  rw [← hw1]
  clear hw1
  have cr : w1.cell? ⟨w.heap.size, 16, none⟩ = some (.int .i64 r) := (A0.out.cell 16).trans C2.out
  go_wp2_with (refine wpList_load_is (by rfl) 23 _ (by rfl) w.heap.size 0 16 (by rfl) _ Tryd.underlying23 (by rfl) (by kernel_rfl) CV _ A0.out (by rw [CVS.out]; decide) CS C1.out ?_)
  refine (HALF.out w1 B1.out).mono ?_
  rintro e w2 ⟨rfl, hb2⟩
  have HL : Hid (w.heap.size + 1 < w2.heap.size) := Lib.hid (A1.out.below hb2 A1.out.lt).lt
  have X0 := Lib.hid (((A0.out.below hb2 A0.out.lt).alloc (.cells Z 24)).alloc (.cells Z 24)); have X1 := Lib.hid (((A1.out.below hb2 A1.out.lt).alloc (.cells Z 24)).alloc (.cells Z 24))
  have B2 := Lib.hid (B1.out.trans (hb2.mono B1.out.size))
  have A10 : Hid (At ((w2.alloc (.cells Z 24)).alloc (.cells Z 24)) w2.heap.size Z 24) := Lib.hid ((at_new w2 Z _).alloc _)
  have A11 : Hid (At ((w2.alloc (.cells Z 24)).alloc (.cells Z 24)) (w2.heap.size + 1) Z 24) := Lib.hid (by have h := at_new (w2.alloc (.cells Z 24)) Z 24; simpa using h)
  have B3 : Hid (Below w.heap.size w ((w2.alloc (.cells Z 24)).alloc (.cells Z 24))) := Lib.hid ((B2.out.alloc B2.out.size _).alloc (by have := B2.out.size; simp; omega) _)
  clear hb2 A0 A1 B1 B2 HALF cr
  go_upto_region 2 with (first
    | (refine wpList_store_all (by rfl) 24 _ _ (by rfl) (by rfl) w2.heap.size MA (by rfl) (by rfl) (by rw [MAS.out]; exact infoDg) Z _ A10.out (by rw [MAS.out, ZS.out]) MAO.out ?_)
    | (refine wpList_store_all (by rfl) 24 _ _ (by rfl) (by rfl) (w2.heap.size + 1) MB (by rfl) (by rfl) (by rw [MBS.out]; exact infoDg) Z _ (A11.out.row_other MA (by omega)) (by rw [MBS.out, ZS.out]) MBO.out ?_))
  clear hx
  obtain ⟨g, hg⟩ : ∃ g, g = w2.heap.size := ⟨_, rfl⟩
  rw [← hg] at A10 A11 HL ⊢
  have Y0 := Lib.hid ((X0.out.row_other (g := g) MA (by have := HL.out; omega)).row_other (g := g + 1) MB (by have := HL.out; omega)); have Y1 := Lib.hid ((X1.out.row_other (g := g) MA (by have := HL.out; omega)).row_other (g := g + 1) MB (by have := HL.out; omega))
  have Y10 := Lib.hid ((A10.out.row MA).row_other (g := g + 1) MB (by omega)); have Y11 := Lib.hid ((A11.out.row_other (g := g) MA (by omega)).row MB)
  have BQ := Lib.hid (below_row (below_row B3.out (g := g) (by have := HL.out; omega) MA) (g := g + 1) (by have := HL.out; omega) MB)
  clear X0 X1 A10 A11 B3 hg
  generalize ((((w2.alloc (.cells Z 24)).alloc (.cells Z 24)).setRow g MA).setRow (g + 1) MB) = wq at *
  rcases HC.out with ⟨rfl, e1, e2⟩ | ⟨rfl, g0, g1, h2⟩
  · go_wp2_with (first
      | (refine Mem.wpList_build (by rfl) 24 _ #[] (.agg Z) (by rfl) (by simp) BN.out ?_)
      | (refine wpList_store_all (by rfl) 24 _ _ (by rfl) (by rfl) (w.heap.size + 1) Z (by rfl) (by rfl) (by rw [ZS.out]; exact infoDg) Z _ Y1.out (by rfl) ZO.out ?_))
    try simp only [Exit.inBlock, Exit.then]
    refine ret_row_tmp (by rfl) (w.heap.size + 1) 24 Z _ (.int .i64 1) (by rfl) (by rfl) (Y1.out.row Z) Tryd.underlying24 (by rfl) (by rw [ZS.out]; exact infoDg) ?_
    exact ⟨by first | rw [e1, e2] | rw [e1], below_row BQ.out (Nat.le_succ _) Z⟩
  · obtain ⟨k, hk⟩ : ∃ k : Nat, r = (k : Int) := ⟨r.toNat, by omega⟩
    have CKC := Lib.hid (CK.out k hk (by omega)); have MSC := Lib.hid (MSUM.out k hk); have H2 := Lib.hid h2
    clear CK MSUM g0 g1 h2 hk
    go_upto_region 4 with fail
    have D0 : Hid (Below wq.heap.size wq wq.drew) := Lib.hid (Below.refl _ _).drew
    have E0 : Hid (Below w.heap.size w wq.drew) := Lib.hid BQ.out.drew
    refine wp_region_plan_in (fun x => Below wq.heap.size wq x) (.take 0 (.take 1 (.take 2 (.take 3 (.sole 4 (.sole 5 (.take 6 .done))))))) (by kernel_rfl) (by kernel_rfl) (by kernel_rfl) D0.out ?_
    refine plan_cut 24 _ 32 5 (g + 1) 0 (by rfl) (by rfl) (by rfl) (by first | (with_reducible exact Mem.ev_const _ _) | (with_reducible exact Mem.ev_zero _ _ _) | (with_reducible (apply Eq.trans (Mem.ev_tmp _ _ _)); simp only [List.getD_cons_succ, List.getD_cons_zero] <;> rfl)) Tryd.underlying24 infoB ?_
    (simp only [Act.put, List.setIfInBounds_toArray, List.set_cons_zero, List.set_cons_succ])
    refine plan_field 30 _ 3 w.heap.size 0 ⟨w.heap.size, 49, none⟩ (by rfl) (by rfl) (by rfl) (by first | (with_reducible exact Mem.ev_const _ _) | (with_reducible exact Mem.ev_zero _ _ _) | (with_reducible (apply Eq.trans (Mem.ev_tmp _ _ _)); simp only [List.getD_cons_succ, List.getD_cons_zero] <;> rfl)) (fun wx => by go_simp) ?_
    (simp only [Act.put, List.setIfInBounds_toArray, List.set_cons_zero, List.set_cons_succ])
    refine plan_cut 24 _ 32 5 w.heap.size 49 (by rfl) (by rfl) (by rfl) (by first | (with_reducible exact Mem.ev_const _ _) | (with_reducible exact Mem.ev_zero _ _ _) | (with_reducible (apply Eq.trans (Mem.ev_tmp _ _ _)); simp only [List.getD_cons_succ, List.getD_cons_zero] <;> rfl)) Tryd.underlying24 infoB ?_
    (simp only [Act.put, List.setIfInBounds_toArray, List.set_cons_zero, List.set_cons_succ])
    refine plan_row 30 _ w.heap.size _ CV 30 (by rfl) (by rfl) (by rfl) (by first | (with_reducible exact Mem.ev_const _ _) | (with_reducible exact Mem.ev_zero _ _ _) | (with_reducible (apply Eq.trans (Mem.ev_tmp _ _ _)); simp only [List.getD_cons_succ, List.getD_cons_zero] <;> rfl)) (fun w' hw' => Y0.out.below hw' Y0.out.lt) Tryd.underlying30 (by rfl) (by rw [CVS.out]; exact infoWrP) ?_
    (simp only [Act.put, List.setIfInBounds_toArray, List.set_cons_zero, List.set_cons_succ])
    refine plan_call 20 _ _ _ (by kernel_rfl) (by rfl) (by rfl) (by rfl) (by first | exact Mem.ev_none _ | (simp only [List.map_toArray, List.map_cons, List.map_nil, Mem.ev_tmp, List.getD_cons_succ, List.getD_cons_zero] <;> rfl)) ?_
    refine (CKC.out _).mono ?_
    rintro o3 w2b ⟨v5, rfl, hs5, hb⟩
    have D1 : Hid (Below wq.heap.size wq w2b) := Lib.hid (D0.out.trans (hb.mono D0.out.size)); have E5 := Lib.hid (E0.out.trans (hb.mono E0.out.size)); have S5 := Lib.hid hs5
    clear hb hs5
    refine ⟨_, rfl, D1.out, ?_⟩
    (simp only [Act.put, List.setIfInBounds_toArray, List.set_cons_zero, List.set_cons_succ])
    refine plan_call 27 _ _ _ (by kernel_rfl) (by rfl) (by rfl) (by rfl) (by first | exact Mem.ev_none _ | (simp only [List.map_toArray, List.map_cons, List.map_nil, Mem.ev_tmp, List.getD_cons_succ, List.getD_cons_zero] <;> rfl)) ?_
    refine (MSC.out _ _ _ w2b (SLB.out _ _ (Y11.out.below D1.out Y11.out.lt)) (SLC.out _ _ (Y0.out.below D1.out Y0.out.lt)) S5.out E5.out).mono ?_
    rintro o4 w3 ⟨rfl, hb⟩
    have D2 : Hid (Below wq.heap.size wq w3) := Lib.hid (D1.out.trans (hb.mono D1.out.size))
    clear hb D1 S5 E5 E0
    refine ⟨_, rfl, D2.out, ?_⟩
    (simp only [Act.put, List.setIfInBounds_toArray, List.set_cons_zero, List.set_cons_succ])
    refine plan_not 4 _ q (by rfl) (by rfl) (by rfl) (by first | (with_reducible exact Mem.ev_const _ _) | (with_reducible exact Mem.ev_zero _ _ _) | (with_reducible (apply Eq.trans (Mem.ev_tmp _ _ _)); simp only [List.getD_cons_succ, List.getD_cons_zero] <;> rfl)) ?_
    (simp only [Act.put, List.setIfInBounds_toArray, List.set_cons_zero, List.set_cons_succ])
    refine plan_nil ?_
    have U0 := Lib.hid (Y0.out.below D2.out Y0.out.lt); have U1 := Lib.hid (Y1.out.below D2.out Y1.out.lt); have U10 := Lib.hid (Y10.out.below D2.out Y10.out.lt); have BU := Lib.hid (BQ.out.trans (D2.out.mono BQ.out.size))
    clear Y0 Y1 Y10 Y11 D0 D2 BQ
    rcases H2.out with ⟨rfl, e1, e2⟩ | ⟨rfl, e1, e2⟩
    · go_wp2_with (first
        | (refine Mem.wpList_build (by rfl) 24 _ #[] (.agg Z) (by rfl) (by simp) BN.out ?_)
        | (refine wpList_store_all (by rfl) 24 _ _ (by rfl) (by rfl) (w.heap.size + 1) Z (by rfl) (by rfl) (by rw [ZS.out]; exact infoDg) Z _ U1.out (by rfl) ZO.out ?_))
      try simp only [Exit.inBlock, Exit.then]
      refine ret_row_tmp (by rfl) (w.heap.size + 1) 24 Z _ (.int .i64 10) (by rfl) (by rfl) (U1.out.row Z) Tryd.underlying24 (by rfl) (by rw [ZS.out]; exact infoDg) ?_
      exact ⟨by first | rw [e1, e2] | rw [e1], below_row BU.out (Nat.le_succ _) Z⟩
    · go_wp2_with (first
        | (refine wpList_load_all (by rfl) 24 _ (by rfl) g (by rfl) _ Tryd.underlying24 (by rfl) MA _ U10.out (by rw [MAS.out]; exact infoDg) ?_)
        | (refine wpList_load_is (by rfl) 24 _ (by rfl) w.heap.size 17 32 (by rfl) _ Tryd.underlying24 (by rfl) (by kernel_rfl) CV _ U0.out (by rw [CVS.out]; decide) MX C3.out ?_))
      refine (TK.out w3 BU.out).mono ?_
      rintro e w4 ⟨rfl, hb⟩
      have U14 := Lib.hid (U1.out.below hb U1.out.lt); have BU4 := Lib.hid (BU.out.trans (hb.mono BU.out.size))
      clear hb U1 BU U0 U10
      go_wp2_with (refine wpList_store_all (by rfl) 24 _ _ (by rfl) (by rfl) (w.heap.size + 1) MK (by rfl) (by rfl) (by rw [MKS.out]; exact infoDg) Z _ U14.out (by rw [MKS.out, ZS.out]) MKO.out ?_)
      try simp only [Exit.inBlock, Exit.then]
      refine ret_row_tmp (by rfl) (w.heap.size + 1) 24 MK _ (.int .i64 0) (by rfl) (by rfl) (U14.out.row MK) Tryd.underlying24 (by rfl) (by rw [MKS.out]; exact infoDg) ?_
      exact ⟨by first | rw [e1, e2] | rw [e1], below_row BU4.out (Nat.le_succ _) MK⟩
end Sha
end Go.Proofs.YtjadjidjfkahpaaDoor
namespace Go.Proofs.YtjadjidjfkahpaaDoor
namespace Sha
open Go.RowKit Mem
set_option maxRecDepth 100000
set_option maxHeartbeats 4000000 in
theorem pagain_any (old p s : List (BitVec 8)) (ls : s.length = 16) (x : WrV) (hx' : x.Wf) (vo v : Value) (w : World) (ho : Sl w vo old) (hp : Sl w v p) (lo : old.length ≤ 1000000) (lp : p.length ≤ 1000000) (hL : Tabs w) (hT' : CTabs w) :
    Calls Tryd.prog 17 #[vo, v, .agg (u8s s).toArray, .agg (wrC x)] w (WrapEnd w (againR old p s x).1 (againR old p s x).2) := by
  have un := fun wx (h : Below w.heap.size w wx) => punwrap_any old x hx' vo wx (ho.below h) lo (hL.below h (Nat.le_refl _)) (hT'.below h (Nat.le_refl _))
  have lk := unwrapR_len old x hx'
  have wr := fun wx (h : Below w.heap.size w wx) => pwrap_any p s ls x.r hx'.r0 hx'.r1 (unwrapR old x).1 lk v wx (hp.below h) lp (hL.below h (Nat.le_refl _)) (hT'.below h (Nat.le_refl _))
  have wf := wrapR_wf p s x.r (unwrapR old x).1 ls lk hx'.r0 hx'.r1
  have hcase : (((unwrapR old x).2 = 1 ∨ (unwrapR old x).2 = 10) ∧ againR old p s x = (zwr, (unwrapR old x).2)) ∨ ((unwrapR old x).2 = 0 ∧ againR old p s x = wrapR p s x.r (unwrapR old x).1) := by
    have h3 : (unwrapR old x).2 = 1 ∨ (unwrapR old x).2 = 10 ∨ (unwrapR old x).2 = 0 := by
      unfold unwrapR
      split
      · exact .inl rfl
      · split
        · exact .inr (.inl rfl)
        · exact .inr (.inr rfl)
    unfold againR
    rcases h3 with h | h | h
    · exact .inl ⟨.inl h, if_pos (by rw [h]; decide)⟩
    · exact .inl ⟨.inr h, if_pos (by rw [h]; decide)⟩
    · exact .inr ⟨h, if_neg (by rw [h]; decide)⟩
  obtain ⟨PA, hPA⟩ : ∃ P, P = againR old p s x := ⟨_, rfl⟩
  obtain ⟨PW, hPW⟩ : ∃ P, P = wrapR p s x.r (unwrapR old x).1 := ⟨_, rfl⟩
  obtain ⟨k, hk⟩ : ∃ k, k = (unwrapR old x).1 := ⟨_, rfl⟩
  obtain ⟨n, hn⟩ : ∃ n, n = (unwrapR old x).2 := ⟨_, rfl⟩
  rw [← hPA]
  rw [← hPA, ← hPW, ← hn] at hcase
  rw [← hPW] at wr wf
  rw [← hk, ← hn] at un
  rw [← hk] at wr lk
  obtain ⟨MK, hMK⟩ : ∃ M, M = (u8s k).toArray := ⟨_, rfl⟩
  have mks : MK.size = 32 := by rw [hMK]; simp [u8s_length, lk]
  have mko : MK.all (·.oneCell') = true := by rw [hMK]; exact u8s_one _
  obtain ⟨CV, hCV⟩ : ∃ M, M = wrC x := ⟨_, rfl⟩
  have cvs : CV.size = 81 := by rw [hCV]; exact wrC_size hx'
  obtain ⟨CS, hCS⟩ : ∃ C, C = (u8s s).toArray := ⟨_, rfl⟩
  have css : CS.size = 16 := by rw [hCS]; simp [u8s_length, ls]
  have c2 := wr_r hx'
  obtain ⟨r, hr⟩ : ∃ r, r = x.r := ⟨_, rfl⟩
  obtain ⟨W1, hW1⟩ : ∃ W, W = wrC PW.1 := ⟨_, rfl⟩
  have w1s : W1.size = 81 := by rw [hW1]; exact wrC_size wf
  have w1o : W1.all (·.oneCell') = true := by rw [hW1]; exact wrC_one _
  obtain ⟨q, hq⟩ : ∃ q, q = PW.2 := ⟨_, rfl⟩
  obtain ⟨ZW, hZW⟩ : ∃ Z, Z = wrC zwr := ⟨_, rfl⟩
  have zws : ZW.size = 81 := by rw [hZW]; exact wrC_size zwr_wf
  have zwo : ZW.all (·.oneCell') = true := by rw [hZW]; exact wrC_one _
  have hxw : ∀ w, (zeroValue 30).run Tryd.prog w = .ok (.agg ZW) w := by rw [hZW]; exact zeroWrP
  have bn : ∀ w, (Instr.build 30 #[]).run Tryd.prog w = .ok (.agg ZW) w := by rw [hZW]; exact buildWP0
  obtain ⟨Z, hZ⟩ : ∃ Z, Z = (u8s z32).toArray := ⟨_, rfl⟩
  have zs : Z.size = 32 := by rw [hZ]; simp [z32, u8s_length]
  have hx : ∀ w, (zeroValue 24).run Tryd.prog w = .ok (.agg Z) w := by rw [hZ]; exact zeroK32
  rw [← hCV, ← hr] at c2
  have un2 : ∀ wx, Below w.heap.size w wx → Calls Tryd.prog 14 #[vo, .agg CV] wx fun e w' => e = .returned (.tuple #[.agg MK, .int .i64 n]) ∧ Below wx.heap.size wx w' := fun wx h => by rw [hMK, hCV]; exact un wx h
  have wr2 : ∀ wx, Below w.heap.size w wx → Calls Tryd.prog 9 #[v, .agg CS, .int .i64 r, .agg MK] wx fun e w' => e = .returned (.tuple #[.agg W1, .int .i64 q]) ∧ Below wx.heap.size wx w' := fun wx h => by rw [hMK, hCS, hr, hW1, hq]; exact wr wx h
  have hcase2 : ((n = 1 ∨ n = 10) ∧ wrC PA.1 = ZW ∧ PA.2 = n) ∨ (n = 0 ∧ wrC PA.1 = W1 ∧ PA.2 = q) := by
    rcases hcase with ⟨h1, h2⟩ | ⟨h1, h2⟩
    · exact .inl ⟨h1, by rw [h2, hZW], by rw [h2]⟩
    · exact .inr ⟨h1, by rw [h2, hW1], by rw [h2, hq]⟩
  rw [← hCV, ← hCS]
  obtain ⟨w1, hw1⟩ : ∃ w1, w1 = (((w.alloc (.cells CS 23)).alloc (.cells CV 30)).alloc (.cells ZW 30)) := ⟨_, rfl⟩
  have a0 : At w1 w.heap.size CS 23 := by rw [hw1]; exact ((at_new w _ _).alloc _).alloc _
  have a1 : At w1 (w.heap.size + 1) CV 30 := by
    rw [hw1]
    have h := (at_new (w.alloc (.cells CS 23)) CV 30).alloc (.cells ZW 30)
    simpa using h
  have a2 : At w1 (w.heap.size + 2) ZW 30 := by
    rw [hw1]
    have h := at_new ((w.alloc (.cells CS 23)).alloc (.cells CV 30)) ZW 30
    simpa using h
  have b1 : Below w.heap.size w w1 := by rw [hw1]; exact (((Below.refl _ _).alloc (Nat.le_refl _) _).alloc (by simp) _).alloc (by simp; omega) _
  have ZS := Lib.hid zs; have ZWS := Lib.hid zws; have ZWO := Lib.hid zwo; have BN := Lib.hid bn; have CSS := Lib.hid css; have CVS := Lib.hid cvs; have A0 := Lib.hid a0; have A1 := Lib.hid a1; have A2 := Lib.hid a2; have B1 := Lib.hid b1; have UN := Lib.hid un2; have WR := Lib.hid wr2; have MKS := Lib.hid mks; have MKO := Lib.hid mko; have W1S := Lib.hid w1s; have W1O := Lib.hid w1o; have HC := Lib.hid hcase2; have C2 := Lib.hid c2
  clear zs zws zwo bn css cvs a0 a1 a2 b1 un un2 wr wr2 mks mko w1s w1o wf hcase hcase2 c2 hPA hPW hk hn hMK hCV hCS hr hW1 hq hZW hZ lk ls hx' ho hp lo lp hL hT'
  go_enter Tryd.func17, Tryd.ntmps17
  go_upto_region 1 with fail
  rw [← hw1]
  clear hw1 hxw
  go_wp2_with (refine wpList_load_all (by rfl) 30 _ (by rfl) (w.heap.size + 1) (by rfl) _ Tryd.underlying30 (by rfl) CV _ A1.out (by rw [CVS.out]; exact infoWrP) ?_)
  refine (UN.out w1 B1.out).mono ?_
  rintro e w2 ⟨rfl, hb2⟩
  have HL : Hid (w.heap.size + 2 < w2.heap.size) := Lib.hid (A2.out.below hb2 A2.out.lt).lt
  have X0 := Lib.hid ((A0.out.below hb2 A0.out.lt).alloc (.cells MK 24)); have X1 := Lib.hid ((A1.out.below hb2 A1.out.lt).alloc (.cells MK 24)); have X2 := Lib.hid ((A2.out.below hb2 A2.out.lt).alloc (.cells MK 24))
  have b2 := B1.out.trans (hb2.mono B1.out.size)
  have B3 : Hid (Below w.heap.size w (w2.alloc (.cells MK 24))) := Lib.hid (b2.alloc b2.size _)
  have A10 : Hid (At (w2.alloc (.cells MK 24)) w2.heap.size MK 24) := Lib.hid (at_new w2 MK _)
  clear hb2 b2 A0 A1 A2 B1 UN
  go_upto_region 2 with (refine wpList_store_new (by rfl) 24 _ _ (by rfl) (by rfl) MK _ _ (by rfl) (by rfl) (by rw [MKS.out]; exact infoDg) (by rw [MKS.out, ZS.out]) MKO.out ?_)
  clear hx
  obtain ⟨g, hg⟩ : ∃ g, g = w2.heap.size := ⟨_, rfl⟩
  rw [← hg] at A10 HL ⊢
  clear hg
  generalize (w2.alloc (.cells MK 24)) = wq at *
  rcases HC.out with ⟨hn, e1, e2⟩ | ⟨rfl, e1, e2⟩
  · rcases hn with rfl | rfl
    · go_wp2_with (first
        | (refine Mem.wpList_build (by rfl) 30 _ #[] (.agg ZW) (by rfl) (by simp) BN.out ?_)
        | (refine wpList_store_all (by rfl) 30 _ _ (by rfl) (by rfl) (w.heap.size + 2) ZW (by rfl) (by rfl) (by rw [ZWS.out]; exact infoWrP) ZW _ X2.out (by rfl) ZWO.out ?_))
      try simp only [Exit.inBlock, Exit.then]
      refine ret_row_tmp (by rfl) (w.heap.size + 2) 30 ZW _ (.int .i64 1) (by rfl) (by rfl) (X2.out.row ZW) Tryd.underlying30 (by rfl) (by rw [ZWS.out]; exact infoWrP) ?_
      exact ⟨by first | rw [e1, e2] | rw [e1], below_row B3.out (Nat.le_add_right _ _) ZW⟩
    · go_wp2_with (first
        | (refine Mem.wpList_build (by rfl) 30 _ #[] (.agg ZW) (by rfl) (by simp) BN.out ?_)
        | (refine wpList_store_all (by rfl) 30 _ _ (by rfl) (by rfl) (w.heap.size + 2) ZW (by rfl) (by rfl) (by rw [ZWS.out]; exact infoWrP) ZW _ X2.out (by rfl) ZWO.out ?_))
      try simp only [Exit.inBlock, Exit.then]
      refine ret_row_tmp (by rfl) (w.heap.size + 2) 30 ZW _ (.int .i64 10) (by rfl) (by rfl) (X2.out.row ZW) Tryd.underlying30 (by rfl) (by rw [ZWS.out]; exact infoWrP) ?_
      exact ⟨by first | rw [e1, e2] | rw [e1], below_row B3.out (Nat.le_add_right _ _) ZW⟩
  · have cr : wq.cell? ⟨w.heap.size + 1, 16, none⟩ = some (.int .i64 r) := (X1.out.cell 16).trans C2.out
    go_wp2_with (first
      | (refine wpList_load_all (by rfl) 23 _ (by rfl) w.heap.size (by rfl) _ Tryd.underlying23 (by rfl) CS _ X0.out (by rw [CSS.out]; exact infoS16) ?_)
      | (refine wpList_load_all (by rfl) 24 _ (by rfl) g (by rfl) _ Tryd.underlying24 (by rfl) MK _ A10.out (by rw [MKS.out]; exact infoDg) ?_))
    refine (WR.out wq B3.out).mono ?_
    rintro e w3 ⟨rfl, hb3⟩
    have Y2 := Lib.hid (X2.out.below hb3 X2.out.lt); have B4 := Lib.hid (B3.out.trans (hb3.mono B3.out.size))
    clear hb3 X0 X1 X2 A10 B3 cr
    go_wp2_with (refine wpList_store_all (by rfl) 30 _ _ (by rfl) (by rfl) (w.heap.size + 2) W1 (by rfl) (by rfl) (by rw [W1S.out]; exact infoWrP) ZW _ Y2.out (by rw [W1S.out, ZWS.out]) W1O.out ?_)
    try simp only [Exit.inBlock, Exit.then]
    refine ret_row_tmp (by rfl) (w.heap.size + 2) 30 W1 _ (.int .i64 q) (by rfl) (by rfl) (Y2.out.row W1) Tryd.underlying30 (by rfl) (by rw [W1S.out]; exact infoWrP) ?_
    exact ⟨by first | rw [e1, e2] | rw [e1], below_row B4.out (Nat.le_add_right _ _) W1⟩
end Sha
end Go.Proofs.YtjadjidjfkahpaaDoor
