/- The document's Same: its walk. The document's shape: Parent, Block, Item: walks. The document's shape: New. Shapes: the items under an item, as a piece of a level (mathematics). Bytes laid into bytes that are known whole. The document's shape: Path, Under: walks (written by shpref3.py). A copy into a row. -/
import Derived.Test.YtajdpbbbocnfiaaDoorBx07
import Derived.Test.YtajdpbbbocnfiaaDoorBx08
import Derived.Test.YtajdpbbbocnfiaaDoorBx05
import Derived.OwnWalk
import Derived.Deep.DeepCutAuto
import Derived.Test.YtajdpbbbocnfiaaDoorBx03
import Derived.Laws.CopyRow
import Derived.Laws.IdiomCopy
namespace Go.Proofs.YtajdpbbbocnfiaaDoor
namespace Sha
open Go.RowKit Mem
set_option maxRecDepth 100000 in
set_option maxHeartbeats 1000000 in
theorem same_any (l m : List (BitVec 8)) (vl vm : Value) (w : World) (hl : Sl w vl l) (hm : Sl w vm m) (_bl : l.length ≤ 9223372036854775807) (bm : m.length ≤ 9223372036854775807) :
    Calls Tryd.prog 13 #[vl, vm] w fun e w' => e = .returned (.bool (sameB l m)) ∧ Below w.heap.size w w' := by
  have hl0 := hl
  have hm0 := hm
  obtain ⟨a1, c1, rfl, hc1, _⟩ := hl
  obtain ⟨a2, c2, rfl, hc2, _⟩ := hm
  obtain ⟨n, hn⟩ : ∃ n, n = l.length := ⟨_, rfl⟩
  obtain ⟨k, hk⟩ : ∃ k, k = m.length := ⟨_, rfl⟩
  have HL := Lib.hid hl0; have HM := Lib.hid hm0
  clear hl0 hm0
  by_cases hne : n ≠ k
  · have hs := sameB_len l m (by omega)
    rw [hs]
    rw [← hn, ← hk]
    have hne' : ¬ (n : Int) = (k : Int) := by omega
    rw [← hn] at _bl; rw [← hk] at bm
    clear hs hn hk hc1 hc2 hne HL HM
    go_enter Tryd.func13, Tryd.ntmps13
    go_wp2
    go_ret
    exact ⟨rfl, Below.refl _ _⟩
  · have hnk : n = k := by omega
    subst hnk
    rw [← hn] at hc1 _bl
    rw [← hk] at hc2 bm
    have heq : (n : Int) = (n : Int) := rfl
    have HN := Lib.hid hn; have HK := Lib.hid hk
    rw [← hn, ← hk]
    clear hn hk hne heq
    go_enter Tryd.func13, Tryd.ntmps13
    go_wp2
    go_loopw [5] (fun i wr => ∃ j : Nat, j ≤ n ∧ i = .int .i64 j ∧ l.take j = m.take j ∧ ∃ q, wr = w.drewN q) (fun i _ => n - (intOf i).toNat)
    case atStart => exact ⟨0, Nat.zero_le _, rfl, rfl, 0, rfl⟩
    case round =>
      obtain ⟨j, hj, rfl, htk, q, rfl⟩ := hrel
      have HT := Lib.hid htk; clear htk
      by_cases hlt : j < n
      · obtain ⟨b1, o1, rfl, cl⟩ := sl_at (i := j) HL.out (by rw [← HN.out]; exact hlt)
        obtain ⟨b2, o2, rfl, cm⟩ := sl_at (i := j) HM.out (by rw [← HK.out]; exact hlt)
        have z0 : (0 : Int) ≤ (j : Int) := by omega
        have zn : (j : Int) < (n : Int) := by omega
        by_cases hxy : l.getD j 0 = m.getD j 0
        · have htn := take_next l m j (by rw [← HN.out]; exact hlt) (by rw [← HK.out]; exact hlt) HT.out hxy
          rw [← hxy] at cm
          obtain ⟨x, hx⟩ : ∃ x, x = l.getD j 0 := ⟨_, rfl⟩
          rw [← hx] at cl cm
          have HTN := Lib.hid htn
          clear hxy hx htn
          go_wp2
          go_quiet (fail)
          go_wp2
          go_roundw
          case rel => exact ⟨j + 1, by omega, by go_num, HTN.out, _, rfl⟩
          case measure => simp [intOf]; omega
        · have hs := sameB_at l m j hxy
          obtain ⟨x, hx⟩ : ∃ x, x = l.getD j 0 := ⟨_, rfl⟩
          obtain ⟨y, hy⟩ : ∃ y, y = m.getD j 0 := ⟨_, rfl⟩
          rw [← hx] at cl hxy
          rw [← hy] at cm hxy
          have hbn : (B8 x != B8 y) = true := by
            rw [bne_iff_ne]; exact fun e => hxy (B8_inj e)
          have hbe : ¬ B8 x = B8 y := fun e => hxy (B8_inj e)
          have HS := Lib.hid hs
          clear hs hx hy hxy
          go_wp2
          go_quiet (fail)
          go_wp2
          go_ret
          exact ⟨by rw [HS.out]; rfl, ⟨rfl, rfl, rfl, Nat.le_refl _, fun _ _ => rfl⟩⟩
      · have hjn : j = n := by omega
        have hge : ¬ (j : Int) < (n : Int) := by omega
        have hs : Hid (sameB l m = true) := by
          have h := HT.out
          rw [hjn, HN.out, List.take_length] at h
          have h2 : l.length = m.length := by rw [← HN.out, ← HK.out]
          rw [h2, List.take_length] at h
          show sameB l m = true
          rw [h]; exact sameB_self m
        clear hjn hlt
        go_wp2
        go_ret
        exact ⟨by rw [hs.out]; rfl, ⟨rfl, rfl, rfl, Nat.le_refl _, fun _ _ => rfl⟩⟩
end Sha
end Go.Proofs.YtajdpbbbocnfiaaDoor
namespace Go.Proofs.YtajdpbbbocnfiaaDoor
namespace Sha
open Go.RowKit Mem
set_option maxRecDepth 100000
/-- How a call ends that tells two ints and a bool. -/
def TEnd (t : Int × Int × Bool) (w : World) (e : Ending) (w' : World) : Prop := e = .returned (.tuple #[.int .i64 t.1, .int .i64 t.2.1, .bool t.2.2]) ∧ Below w.heap.size w w'
theorem KZ_nat (p q : Nat) (h : q < itn p) : KZ p (q : Int) = if p ≤ q then kz p q (many p q) else [] := by
  unfold KZ
  by_cases hp : p ≤ q
  · rw [if_pos hp, if_pos ⟨by omega, by omega⟩, Int.toNat_natCast]
  · rw [if_neg hp, if_neg (by omega)]
end Sha
end Go.Proofs.YtajdpbbbocnfiaaDoor
namespace Go.Proofs.YtajdpbbbocnfiaaDoor
namespace Sha
open Go.RowKit Mem
set_option maxRecDepth 100000
theorem stn_le (p k : Nat) (hk : k ≤ 3) (h1 : p ≤ 216) : stn p k ≤ 300 ∧ lvn p k ≤ 216 := by
  match k, hk with
  | 0, _ => simp [stn, lvn]; omega
  | 1, _ => simp [stn, lvn, cnt]; omega
  | 2, _ => simp [stn, lvn, cnt]; omega
  | 3, _ => simp [stn, lvn, cnt]; omega
theorem RS.one {w : World} {p : Nat} {vL vF : Value} (h : RS w p vL vF) : (rsC p vL vF).all (·.oneCell') = true := by
  obtain ⟨a, c, rfl⟩ := h.l.hd
  obtain ⟨b, d, rfl⟩ := h.f.hd
  exact rsC_one _ _ _ _ _ _ _
end Sha
end Go.Proofs.YtajdpbbbocnfiaaDoor
namespace Go.Proofs.YtajdpbbbocnfiaaDoor
namespace Sha
open Go.RowKit
/-- Where the piece of the level a - j that lies under the item i of the level a begins, and ends. -/
def atB (i j : Nat) : Nat := i * 6 ^ j
def enN (p a i j : Nat) : Nat := min ((i + 1) * 6 ^ j) (lvn p (a - j))
theorem atB_succ (i j : Nat) : atB i (j + 1) = atB i j * 6 := by unfold atB; rw [Nat.pow_succ, Nat.mul_assoc]
theorem enN_succ (p a i j : Nat) (ha : a ≤ 3) (hj : j + 1 ≤ a) : enN p a i (j + 1) = min (enN p a i j * 6) (lvn p (a - (j + 1))) := by
  have c := lvn_cnt p (a - (j + 1)) (by omega)
  rw [show a - (j + 1) + 1 = a - j by omega] at c
  have l := cnt_le (lvn p (a - (j + 1)))
  have e : (i + 1) * 6 ^ (j + 1) = (i + 1) * 6 ^ j * 6 := by rw [Nat.pow_succ, Nat.mul_assoc]
  unfold enN
  rw [e, c]
  omega
theorem en_le (p a i j : Nat) (ha : a ≤ 3) (h1 : p ≤ 216) : enN p a i j ≤ 216 := by
  have := (stn_le p (a - j) (by omega) h1).2
  unfold enN
  omega
theorem at_lt (p a i : Nat) (ha : a ≤ 3) (hi : i < lvn p a) : ∀ j, j ≤ a → atB i j < enN p a i j := by
  intro j
  induction j with
  | zero => intro _; unfold atB enN; rw [Nat.pow_zero, Nat.mul_one, Nat.mul_one, Nat.sub_zero]; omega
  | succ j ih =>
    intro hj
    have h := ih (by omega)
    have c := lvn_cnt p (a - (j + 1)) (by omega)
    rw [show a - (j + 1) + 1 = a - j by omega] at c
    have l := cnt_le (lvn p (a - (j + 1)))
    have h2 : enN p a i j ≤ lvn p (a - j) := Nat.min_le_right _ _
    rw [atB_succ, enN_succ p a i j ha hj]
    omega
/-- The piece. -/
def bel (s m : Nat) (n : Nat) : List Int := (List.range n).map fun x => ((s + (m + x) : Nat) : Int)
theorem bel_length (s m n : Nat) : (bel s m n).length = n := by simp [bel]
theorem bel_succ (s m n : Nat) : bel s m (n + 1) = bel s m n ++ [((s + (m + n) : Nat) : Int)] := by simp [bel, List.range_succ]
def belL (p a i b : Nat) : List Int := bel (stn p b) (atB i (a - b)) (enN p a i (a - b) - atB i (a - b))
/-- A node's children. -/
theorem bel_kids (p q a : Nat) (_h0 : 1 ≤ p) (_h1 : p ≤ 216) (hp : p ≤ q) (hq : q < itn p) (ha : lev p q = a + 1) : belL p (a + 1) (q - stn p (a + 1)) a = KZ p (q : Int) := by
  rw [KZ_nat p q hq, if_pos hp]
  have h4 := itn_le p
  have hlo := lev_lo p q
  have hhi := lev_hi p q (by omega)
  have hl3 := lev_le p q
  rw [ha] at hlo hhi hl3
  have s1 := stn_lvn p a (by omega)
  have e1 : fst p q = stn p a + 6 * (q - stn p (a + 1)) := by unfold fst; rw [ha, Nat.add_sub_cancel]
  have e2 : many p q = min 6 (stn p (a + 1) - fst p q) := by unfold many; rw [ha]
  have hn : enN p (a + 1) (q - stn p (a + 1)) (a + 1 - a) - atB (q - stn p (a + 1)) (a + 1 - a) = many p q := by
    rw [show a + 1 - a = 1 by omega]
    unfold enN atB
    rw [Nat.pow_one, show a + 1 - 1 = a by omega, e2, e1]
    omega
  unfold belL
  rw [hn]
  unfold bel kz
  refine List.map_congr_left (fun x _ => ?_)
  rw [show a + 1 - a = 1 by omega, e1]
  unfold atB
  rw [Nat.pow_one]
  omega
/-- A page's way in numbers. -/
theorem itp_form (p x : Nat) (h0 : 1 ≤ p) (h1 : p ≤ 216) (hx : x < p) : ∀ k, k ≤ topn p → itp p x k = stn p k + x / 6 ^ k := by
  intro k
  induction k with
  | zero => intro _; show x = 0 + x / 6 ^ 0; rw [Nat.pow_zero, Nat.div_one, Nat.zero_add]
  | succ k ih =>
    intro hk
    have h := ih (by omega)
    have hl := (itp_lev p x h0 h1 hx k (by omega)).2.2
    show (parN p (itp p x k)).1 = _
    unfold parN
    rw [hl, h, Nat.add_sub_cancel_left, Nat.div_div_eq_div_mul, Nat.pow_succ]
theorem lev_node' (p q : Nat) (h : p ≤ q) : 1 ≤ lev p q := by
  unfold lev
  rw [if_neg (by omega)]
  split
  · omega
  · split <;> omega
end Sha
end Go.Proofs.YtajdpbbbocnfiaaDoor
namespace Go.Proofs.YtajdpbbbocnfiaaDoor
namespace Sha
open Go.RowKit Mem
/-- Bytes with some others laid over them at a place. -/
def laidB (b : List (BitVec 8)) (k : Nat) (x : List (BitVec 8)) : List (BitVec 8) := b.take k ++ x ++ b.drop (k + x.length)
theorem laidL_length (b : List (BitVec 8)) (k : Nat) (x : List (BitVec 8)) (h : k + x.length ≤ b.length) : (laidB b k x).length = b.length := by simp [laidB]; omega
theorem splice_laid (b : List (BitVec 8)) (k : Nat) (x : List (BitVec 8)) : Mem.splice (u8s b).toArray k (u8s x) = (u8s (laidB b k x)).toArray := by
  unfold Mem.splice laidB u8s
  simp [List.map_take, List.map_drop]
/-- copy of a slice of bytes that isn't empty, where it comes up alone. -/
theorem plan_copy_sl {ops : Array Oper} {Q : Exit → Act → World → Prop} {S : World → Prop} {w : World} {a : Act} {o : Oper} {i : Nat} {r : Plan} (x y : Operand) (ho : ops.toList[i]? = some o) (hw : Region.wanted o (yielded ops a.tmps) = true)
    (hop : o.op = .call { callee := .builtin .copy, args := #[x, y], argTypes := #[41, 41] }) (b p dLen dCap : Nat) (vy : Value) (l m : List (BitVec 8)) (hx : a.eval x = .slice (some ⟨b, p, none⟩) dLen dCap) (hy : a.eval y = vy) (hl : Sl w vy l) (hne : l ≠ [])
    (hk : l.length ≤ dLen) (hC : At w b (u8s m).toArray 5) (hfit : p + l.length ≤ m.length)
    (h : ∀ w', At w' b (u8s (laidB m p l)).toArray 5 → w'.heap.size = w.heap.size → (∀ k, k ≠ b → w'.heap[k]? = w.heap[k]?) → (∀ B a, Below B a w → B ≤ b → Below B a w') → S w' ∧ wpPlan Tryd.prog ops Q S r (a.put o.dst (.int .i64 (l.length : Int))) w') : wpPlan Tryd.prog ops Q S (.sole i r) a w := by
  obtain ⟨a0, cap, rfl, _, hr⟩ := hl
  obtain ⟨bb, oo, rfl, _, hc⟩ := hr hne
  have hlen : (u8s l).length = Nat.min l.length dLen := by rw [u8s_length]; exact (Nat.min_eq_left hk).symm
  have hrun := run_copy_row (P := Tryd.prog) w 41 41 o.type 5 b p dLen dCap ⟨bb, oo, none⟩ l.length cap (u8s m).toArray 5 (u8s l) Tryd.underlying41 infoB hC hlen (fun j v hj => by
    have hjk : j < l.length := by
      have := (List.getElem?_eq_some_iff.1 hj).1
      rwa [u8s_length] at this
    rw [Addr.add_mid, hc j hjk, ← hj, u8s_get _ _ hjk]) (by rw [u8s_length]; simpa [u8s] using hfit) (u8s_cells l)
  refine wpOp_at ho hw ?_
  unfold Oper.wp execOp
  simp only [hop, resolve, invoke, builtin, Sem.run_bind, Sem.run_pure, Result.andThen_ok, List.map_toArray, List.map_cons, List.map_nil, hx, hy, hrun]
  have e : ((u8s m).take p ++ u8s l ++ (u8s m).drop (p + (u8s l).length)).toArray = (u8s (laidB m p l)).toArray := by
    rw [← splice_laid, Mem.splice]
  rw [e]
  have hE : goInt (u8s l).length = .int .i64 (l.length : Int) := by rw [u8s_length]; rfl
  rw [hE]
  exact h _ (hC.row _) (by simp) (fun k hk => setRow_other w b k _ hk) (fun B a hb hB => below_row hb hB _)
end Sha
end Go.Proofs.YtajdpbbbocnfiaaDoor
namespace Go.Proofs.YtajdpbbbocnfiaaDoor
namespace Sha
open Go.RowKit Mem
set_option maxRecDepth 100000
/-- How a call ends that tells ints in a slice of its own. -/
def OIEnd (w : World) (L : List Int) (e : Ending) (w' : World) : Prop := ∃ v, e = .returned v ∧ OwnV w' w.heap.size 3 v (iz L) ∧ Below w.heap.size w w'
end Sha
end Go.Proofs.YtajdpbbbocnfiaaDoor
namespace Go.Proofs.YtajdpbbbocnfiaaDoor
namespace Sha
open Go.RowKit Mem
/-- copy of 32 bytes, or of none, into a row, where it comes up alone. -/
theorem plan_copy_row {ops : Array Oper} {Q : Exit → Act → World → Prop} {S : World → Prop} {w : World} {a : Act} {o : Oper} {i : Nat} {r : Plan} (x y : Operand) (ho : ops.toList[i]? = some o) (hw : Region.wanted o (yielded ops a.tmps) = true)
    (hop : o.op = .call { callee := .builtin .copy, args := #[x, y], argTypes := #[41, 41] }) (g p : Nat) (C : Array Value) (t : TypeId) (vy : Value) (l : List (BitVec 8)) (hx : a.eval x = .slice (some ⟨g, p, none⟩) 32 32) (hy : a.eval y = vy) (hl : Sl w vy l) (h32 : l = [] ∨ l.length = 32)
    (hC : At w g C t) (hfit : p + 32 ≤ C.size) (C' : Array Value) (hC' : (if l = [] then C else (C.toList.take p ++ u8s l ++ C.toList.drop (p + 32)).toArray) = C')
    (h : ∀ n w', At w' g C' t → (∀ k, k ≠ g → w'.heap[k]? = w.heap[k]?) → (∀ B a, Below B a w → B ≤ g → Below B a w') → S w' ∧ wpPlan Tryd.prog ops Q S r (a.put o.dst n) w') : wpPlan Tryd.prog ops Q S (.sole i r) a w := by
  obtain ⟨a0, cap, rfl, _, hr⟩ := hl
  refine wpOp_at ho hw ?_
  unfold Oper.wp execOp
  by_cases hne : l = []
  · subst hne
    rw [if_pos rfl] at hC'
    subst hC'
    have hrun := run_copy_none (P := Tryd.prog) w 41 41 o.type 5 (some ⟨g, p, none⟩) a0 32 32 0 cap Tryd.underlying41 infoB (by simp)
    simp only [hop, resolve, invoke, builtin, Sem.run_bind, Sem.run_pure, Result.andThen_ok, List.map_toArray, List.map_cons, List.map_nil, hx, hy, List.length_nil, hrun]
    exact h _ _ hC (fun _ _ => rfl) (fun _ _ hb _ => hb)
  · rw [if_neg hne] at hC'
    have hl32 : l.length = 32 := by rcases h32 with h | h; exact absurd h hne; exact h
    obtain ⟨bb, oo, rfl, _, hc⟩ := hr hne
    have hrun := run_copy_row (P := Tryd.prog) w 41 41 o.type 5 g p 32 32 ⟨bb, oo, none⟩ l.length cap C t (u8s l) Tryd.underlying41 infoB hC (by rw [u8s_length, hl32]; rfl) (fun j v hj => by
      have hjk : j < l.length := by
        have := (List.getElem?_eq_some_iff.1 hj).1
        rwa [u8s_length] at this
      rw [Addr.add_mid, hc j hjk, ← hj, u8s_get _ _ hjk]) (by rw [u8s_length, hl32]; exact hfit) (u8s_cells l)
    have e : (u8s l).length = 32 := by rw [u8s_length]; exact hl32
    rw [e, hC'] at hrun
    simp only [hop, resolve, invoke, builtin, Sem.run_bind, Sem.run_pure, Result.andThen_ok, List.map_toArray, List.map_cons, List.map_nil, hx, hy, hrun]
    exact h _ _ (hC.row _) (fun k hk => setRow_other w g k _ hk) (fun B a hb hB => below_row hb hB _)
end Sha
end Go.Proofs.YtajdpbbbocnfiaaDoor
