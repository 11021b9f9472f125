/- What take tells; copies into a struct; a call of a bound function value. -/
import Derived.Test.YtknaimpnkflfnaaAncParM
import Derived.Test.YtknaimpnkflfnaaAncConv
import Derived.Test.YtknaimpnkflfnaaPkMeth
import Derived.Laws.CopyRow
import Derived.Laws.IdiomCopy
namespace Go.Proofs.Ytknaimpnkflfnaa
namespace Sha
open Go.RowKit Mem
theorem rdNum_le (b : List (BitVec 8)) (e k most : Nat) : (rdNum b e k most).1 ≤ most := by
  unfold rdNum
  split
  · exact Nat.zero_le _
  · split
    · exact Nat.zero_le _
    · omega
theorem rdNum_len (b : List (BitVec 8)) (e k most : Nat) : (rdNum b e k most).2.1.length ≤ b.length := by
  have h := (rdTake_small b e k).2.2.1
  unfold rdNum
  split
  · exact h
  · split
    · exact h
    · exact h
theorem rdTake_x (b : List (BitVec 8)) (e n : Nat) : (rdTake b e n).x = [] ∨ (rdTake b e n).x.length = n := by
  by_cases h : (rdTake b e n).e = 0
  · exact .inr (rdTake_len b e n h).1
  · exact .inl (rdTake_err b e n h).1
/-- Bytes copied over 32 bytes 0: all of them, or none. -/
def padA (x : List (BitVec 8)) : List (BitVec 8) := if x = [] then Z32b else x
theorem padA_len (x : List (BitVec 8)) (h : x = [] ∨ x.length = 32) : (padA x).length = 32 := by
  unfold padA
  split
  · rfl
  · rcases h with h | h
    · rename_i h2; exact absurd h h2
    · exact h
theorem wf_of {a : Anc} (h1 : a.head.length = 32) (h2 : a.root.length = 32) : (ancC a).size = 71 := by simp [ancC, ancL, u8s_length, h1, h2]
theorem anc_set_ver (a : Anc) (z : Int) : (ancC a).setIfInBounds 0 (.int .i64 z) = ancC { a with ver := z } := by simp [ancC, ancL]
theorem anc_set_pages (a : Anc) (z : Int) : (ancC a).setIfInBounds 1 (.int .i64 z) = ancC { a with pages := z } := by simp [ancC, ancL]
theorem anc_set_epoch (a : Anc) (n : Nat) : (ancC a).setIfInBounds 2 (.int .u32 (n : Int)) = ancC { a with epoch := n } := by simp [ancC, ancL]
theorem anc_set_hp (a : Anc) (z : Int) : (ancC a).setIfInBounds 3 (.int .i64 z) = ancC { a with hp := z } := by simp [ancC, ancL]
theorem anc_set_rp (a : Anc) (z : Int) (h : a.head.length = 32) : (ancC a).setIfInBounds 36 (.int .i64 z) = ancC { a with rp := z } := by
  unfold ancC ancL
  simp only [List.setIfInBounds_toArray]
  congr 1
  rw [List.set_append_right _ _ (by simp), List.set_append_right _ _ (by simp [u8s_length, h])]
  simp [u8s_length, h]
theorem anc_set_re (a : Anc) (n : Nat) (h : a.head.length = 32) : (ancC a).setIfInBounds 37 (.int .u32 (n : Int)) = ancC { a with re := n } := by
  unfold ancC ancL
  simp only [List.setIfInBounds_toArray]
  congr 1
  rw [List.set_append_right _ _ (by simp), List.set_append_right _ _ (by simp [u8s_length, h])]
  simp [u8s_length, h]
theorem anc_set_com (a : Anc) (n : Nat) (h : a.head.length = 32) (h2 : a.root.length = 32) : (ancC a).setIfInBounds 70 (.int .u64 (n : Int)) = ancC { a with com := n } := by
  unfold ancC ancL
  simp only [List.setIfInBounds_toArray]
  congr 1
  rw [List.set_append_right _ _ (by simp), List.set_append_right _ _ (by simp [u8s_length, h]), List.set_append_right _ _ (by simp [u8s_length, h]), List.set_append_right _ _ (by simp [u8s_length, h, h2])]
  simp [u8s_length, h, h2]
theorem drop_mid {α : Type} (p q r : List α) (n m : Nat) (hp : p.length = n) (hq : q.length = m) : (p ++ (q ++ r)).drop (n + m) = r := by
  rw [← List.append_assoc, ← hp, ← hq, ← List.length_append, List.drop_left]
theorem take_mid {α : Type} (p r : List α) (n : Nat) (hp : p.length = n) : (p ++ r).take n = p := by rw [← hp, List.take_left]
theorem anc_copy_head (a : Anc) (x : List (BitVec 8)) (h : a.head = Z32b) : (if x = [] then ancC a else ((ancC a).toList.take 4 ++ u8s x ++ (ancC a).toList.drop (4 + 32)).toArray) = ancC { a with head := padA x } := by
  unfold padA
  split
  · rw [← h]
  · unfold ancC ancL
    have e : (u8s a.head).length = 32 := by rw [u8s_length, h]; rfl
    congr 1
    simp only
    rw [take_mid _ _ 4 rfl, drop_mid _ _ _ 4 32 rfl e, List.append_assoc]
theorem anc_copy_root (a : Anc) (x : List (BitVec 8)) (h32 : a.head.length = 32) (h : a.root = Z32b) : (if x = [] then ancC a else ((ancC a).toList.take 38 ++ u8s x ++ (ancC a).toList.drop (38 + 32)).toArray) = ancC { a with root := padA x } := by
  unfold padA
  split
  · rw [← h]
  · unfold ancC ancL
    have e : (u8s a.head).length = 32 := by rw [u8s_length]; exact h32
    have e2 : (u8s a.root).length = 32 := by rw [u8s_length, h]; rfl
    congr 1
    simp only
    rw [show ∀ (p q r s : List Value), p ++ (q ++ (r ++ s)) = (p ++ (q ++ r)) ++ s by intros; simp, take_mid _ _ 38 (by simp [e]), drop_mid _ _ _ 38 32 (by simp [e]) e2]
    simp
/-- What take tells of a reader's bytes: an anchor, what is left, the reader's error. -/
def takeA (b : List (BitVec 8)) : Anc × List (BitVec 8) × Nat :=
  let r1 := rdNum b 0 1 2
  let r2 := rdNum r1.2.1 r1.2.2 2 216
  let r3 := rdNum r2.2.1 r2.2.2 4 4294967295
  let r4 := rdNum r3.2.1 r3.2.2 1 1
  let r5 := rdTake r4.2.1 r4.2.2 32
  let r6 := rdNum r5.b r5.e 1 1
  let r7 := rdNum r6.2.1 r6.2.2 4 r3.1
  let r8 := rdTake r7.2.1 r7.2.2 32
  let r9 := rdNum r8.b r8.e 8 18446744073709551615
  (⟨(r1.1 : Int), (r2.1 : Int), r3.1, (r4.1 : Int), padA r5.x, (r6.1 : Int), r7.1, padA r8.x, r9.1⟩, r9.2.1, r9.2.2)
theorem rdNum_bad (b : List (BitVec 8)) (e k most : Nat) (h : e ≠ 0) : rdNum b e k most = (0, b, e) := by
  have h2 : rdTake b e k = ⟨[], b, e⟩ := by unfold rdTake; rw [if_pos h]
  unfold rdNum
  rw [h2, if_pos h]
theorem rdNum_ok (b : List (BitVec 8)) (k most : Nat) (hk : k ≤ b.length) : rdNum b 0 k most = if most < leN (b.take k) then (0, b.drop k, 3) else (leN (b.take k), b.drop k, 0) := by
  have h2 : rdTake b 0 k = ⟨b.take k, b.drop k, 0⟩ := by unfold rdTake; rw [if_neg (by simp), if_neg (by omega)]
  unfold rdNum
  rw [h2, if_neg (by simp)]
theorem rdTake_bad (b : List (BitVec 8)) (e n : Nat) (h : e ≠ 0) : rdTake b e n = ⟨[], b, e⟩ := by unfold rdTake; rw [if_pos h]
theorem rdTake_ok (b : List (BitVec 8)) (n : Nat) (hn : n ≤ b.length) : rdTake b 0 n = ⟨b.take n, b.drop n, 0⟩ := by unfold rdTake; rw [if_neg (by simp), if_neg (by omega)]
theorem takeA_wf (b : List (BitVec 8)) : (takeA b).1.Wf ∧ (takeA b).2.1.length ≤ b.length := by
  have l1 := fun (l : List (BitVec 8)) e k m => rdNum_le l e k m
  have l2 := fun (l : List (BitVec 8)) e k m => rdNum_len l e k m
  have l3 := fun (l : List (BitVec 8)) e n => (rdTake_small l e n).2.2.1
  have p1 := fun (l : List (BitVec 8)) e => padA_len (rdTake l e 32).x (rdTake_x l e 32)
  simp only [takeA]
  obtain ⟨r1, h1⟩ : ∃ r, r = rdNum b 0 1 2 := ⟨_, rfl⟩
  rw [← h1]
  obtain ⟨r2, h2⟩ : ∃ r, r = rdNum r1.2.1 r1.2.2 2 216 := ⟨_, rfl⟩
  rw [← h2]
  obtain ⟨r3, h3⟩ : ∃ r, r = rdNum r2.2.1 r2.2.2 4 4294967295 := ⟨_, rfl⟩
  rw [← h3]
  obtain ⟨r4, h4⟩ : ∃ r, r = rdNum r3.2.1 r3.2.2 1 1 := ⟨_, rfl⟩
  rw [← h4]
  obtain ⟨r5, h5⟩ : ∃ r, r = rdTake r4.2.1 r4.2.2 32 := ⟨_, rfl⟩
  rw [← h5]
  obtain ⟨r6, h6⟩ : ∃ r, r = rdNum r5.b r5.e 1 1 := ⟨_, rfl⟩
  rw [← h6]
  obtain ⟨r7, h7⟩ : ∃ r, r = rdNum r6.2.1 r6.2.2 4 r3.1 := ⟨_, rfl⟩
  rw [← h7]
  obtain ⟨r8, h8⟩ : ∃ r, r = rdTake r7.2.1 r7.2.2 32 := ⟨_, rfl⟩
  rw [← h8]
  obtain ⟨r9, h9⟩ : ∃ r, r = rdNum r8.b r8.e 8 18446744073709551615 := ⟨_, rfl⟩
  rw [← h9]
  have a1 := l1 b 0 1 2; rw [← h1] at a1
  have a2 := l1 r1.2.1 r1.2.2 2 216; rw [← h2] at a2
  have a3 := l1 r2.2.1 r2.2.2 4 4294967295; rw [← h3] at a3
  have a4 := l1 r3.2.1 r3.2.2 1 1; rw [← h4] at a4
  have a6 := l1 r5.b r5.e 1 1; rw [← h6] at a6
  have a7 := l1 r6.2.1 r6.2.2 4 r3.1; rw [← h7] at a7
  have a9 := l1 r8.b r8.e 8 18446744073709551615; rw [← h9] at a9
  have q5 := p1 r4.2.1 r4.2.2; rw [← h5] at q5
  have q8 := p1 r7.2.1 r7.2.2; rw [← h8] at q8
  have c1 := l2 b 0 1 2; rw [← h1] at c1
  have c2 := l2 r1.2.1 r1.2.2 2 216; rw [← h2] at c2
  have c3 := l2 r2.2.1 r2.2.2 4 4294967295; rw [← h3] at c3
  have c4 := l2 r3.2.1 r3.2.2 1 1; rw [← h4] at c4
  have c5 := l3 r4.2.1 r4.2.2 32; rw [← h5] at c5
  have c6 := l2 r5.b r5.e 1 1; rw [← h6] at c6
  have c7 := l2 r6.2.1 r6.2.2 4 r3.1; rw [← h7] at c7
  have c8 := l3 r7.2.1 r7.2.2 32; rw [← h8] at c8
  have c9 := l2 r8.b r8.e 8 18446744073709551615; rw [← h9] at c9
  clear l1 l2 l3 p1 h1 h2 h3 h4 h5 h6 h7 h8 h9
  exact ⟨⟨by simp only; omega, by simp only; omega, by simp only; omega, by simp only; omega, by simp only; omega, by simp only; omega, by simp only; omega, q5, by simp only; omega, by simp only; omega, by simp only; omega, q8, by simp only; omega⟩, by omega⟩
/-- It is read well just if no number is too large. -/
theorem takeA_spec (b : List (BitVec 8)) (h : b.length = 128) : takeA b = (ancOf b, b.drop 85, 0) ∨ ((takeA b).2.2 = 3 ∧ mayA (ancOf b) = false) := by
  have hN : ∀ i k m, i + k ≤ 128 → rdNum (b.drop i) 0 k m = if m < leN ((b.drop i).take k) then (0, b.drop (i + k), 3) else (leN ((b.drop i).take k), b.drop (i + k), 0) := fun i k m hik => by
    rw [rdNum_ok _ k m (by rw [List.length_drop]; omega), List.drop_drop]
  have hT : ∀ i n, i + n ≤ 128 → rdTake (b.drop i) 0 n = ⟨(b.drop i).take n, b.drop (i + n), 0⟩ := fun i n hin => by
    rw [rdTake_ok _ n (by rw [List.length_drop]; omega), List.drop_drop]
  have bN : ∀ l k m, rdNum l 3 k m = (0, l, 3) := fun l k m => rdNum_bad l 3 k m (by decide)
  have bT : ∀ l n, rdTake l 3 n = ⟨[], l, 3⟩ := fun l n => rdTake_bad l 3 n (by decide)
  have hpad : ∀ i, i + 32 ≤ 128 → padA ((b.drop i).take 32) = (b.drop i).take 32 := fun i hi => by
    unfold padA
    rw [if_neg]
    intro e
    have := congrArg List.length e
    rw [List.length_take, List.length_drop, h, List.length_nil] at this
    omega
  have no : ∀ P : Prop, (mayA (ancOf b) = true → P → False) → P → mayA (ancOf b) = false := fun P hP p => by
    rw [Bool.eq_false_iff]; exact fun hm => hP hm p
  have hm := mayA_iff (ancOf b)
  simp only [ancOf] at hm
  have q3 := leN_take_lt b 3 4 4294967296 (by decide)
  have q77 := leN_take_lt b 77 8 18446744073709551616 (by decide)
  simp only [takeA]
  have n1 := hN 0 1 2 (by decide)
  rw [List.drop_zero] at n1
  rw [n1]
  by_cases h1 : 2 < leN ((b.drop 0).take 1)
  · rw [List.drop_zero] at h1
    rw [if_pos h1]
    simp only [bN, bT]
    exact .inr ⟨trivial, no _ (fun hq _ => by have h2 := hm.1 hq; rw [List.drop_zero] at h2; omega) trivial⟩
  rw [List.drop_zero] at h1
  rw [if_neg h1]
  simp only
  rw [hN (0 + 1) 2 216 (by decide)]
  by_cases h2 : 216 < leN ((b.drop (0 + 1)).take 2)
  · rw [if_pos h2]
    simp only [bN, bT]
    exact .inr ⟨trivial, no _ (fun hq _ => by have h3 := hm.1 hq; simp only [Nat.zero_add] at h2; omega) trivial⟩
  rw [if_neg h2]
  simp only
  rw [hN (0 + 1 + 2) 4 4294967295 (by decide), if_neg (by simp only [Nat.zero_add, Nat.reduceAdd]; omega)]
  simp only
  rw [hN (0 + 1 + 2 + 4) 1 1 (by decide)]
  by_cases h4 : 1 < leN ((b.drop (0 + 1 + 2 + 4)).take 1)
  · rw [if_pos h4]
    simp only [bN, bT]
    exact .inr ⟨trivial, no _ (fun hq _ => by have h3 := hm.1 hq; simp only [Nat.zero_add, Nat.reduceAdd] at h4; omega) trivial⟩
  rw [if_neg h4]
  simp only
  rw [hT (0 + 1 + 2 + 4 + 1) 32 (by decide)]
  simp only
  rw [hN (0 + 1 + 2 + 4 + 1 + 32) 1 1 (by decide)]
  by_cases h6 : 1 < leN ((b.drop (0 + 1 + 2 + 4 + 1 + 32)).take 1)
  · rw [if_pos h6]
    simp only [bN, bT]
    exact .inr ⟨trivial, no _ (fun hq _ => by have h3 := hm.1 hq; simp only [Nat.zero_add, Nat.reduceAdd] at h6; omega) trivial⟩
  rw [if_neg h6]
  simp only
  rw [hN (0 + 1 + 2 + 4 + 1 + 32 + 1) 4 _ (by decide)]
  by_cases h7 : leN ((b.drop (0 + 1 + 2)).take 4) < leN ((b.drop (0 + 1 + 2 + 4 + 1 + 32 + 1)).take 4)
  · rw [if_pos h7]
    simp only [bN, bT]
    exact .inr ⟨trivial, no _ (fun hq _ => by have h3 := hm.1 hq; simp only [Nat.zero_add, Nat.reduceAdd] at h7; omega) trivial⟩
  rw [if_neg h7]
  simp only
  rw [hT (0 + 1 + 2 + 4 + 1 + 32 + 1 + 4) 32 (by decide)]
  simp only
  rw [hN (0 + 1 + 2 + 4 + 1 + 32 + 1 + 4 + 32) 8 18446744073709551615 (by decide), if_neg (by simp only [Nat.zero_add, Nat.reduceAdd]; omega)]
  left
  simp only [Nat.zero_add, Nat.reduceAdd]
  rw [hpad 8 (by decide), hpad 45 (by decide)]
  rfl
/-- A call of a bound function value, where it comes up alone. -/
theorem plan_callv {P : Program} {ops : Array Oper} {Q : Exit → Act → World → Prop} {S : World → Prop} {i : Nat} {r : Plan} {a : Act} {w : World} {o : Oper} (f : FuncId) (x : Operand) (bd : Array Value) (xs : Array Operand) (ats : Array TypeId) (vs : Array Value) (hf : enters P f = true) (ho : ops.toList[i]? = some o) (hw : Region.wanted o (yielded ops a.tmps) = true)
    (hop : o.op = .call { callee := .value x, args := xs, argTypes := ats }) (hx : a.eval x = .func (.func f) bd #[]) (hxs : xs.map a.eval = vs)
    (h : Calls P f (bd ++ vs ++ #[]) w fun e w' => ∃ v, e = .returned v ∧ S w' ∧ wpPlan P ops Q S r (a.put o.dst v) w') : wpPlan P ops Q S (.sole i r) a w := by
  refine wpOp_at ho hw ?_
  unfold Oper.wp execOp
  have hr : (callFunc f (bd ++ vs ++ #[])).run P w = .ok (.enter f (bd ++ vs ++ #[])) w := run_enters hf _ w
  simp only [hop, resolve, hx, Deferred.ofValue, Sem.run_bind, Sem.run_pure, Result.andThen_ok, invoke, hxs, hr]
  exact h.mono fun e w' ⟨v, he, hS, hp⟩ => by subst he; exact ⟨hS, hp⟩
/-- copy of 32 bytes, or of none, into a row, where it comes up alone. -/
theorem plan_copy_row {ops : Array Oper} {Q : Exit → Act → World → Prop} {S : World → Prop} {w : World} {a : Act} {o : Oper} {i : Nat} {r : Plan} (x y : Operand) (ho : ops.toList[i]? = some o) (hw : Region.wanted o (yielded ops a.tmps) = true)
    (hop : o.op = .call { callee := .builtin .copy, args := #[x, y], argTypes := #[27, 27] }) (g p : Nat) (C : Array Value) (t : TypeId) (vy : Value) (l : List (BitVec 8)) (hx : a.eval x = .slice (some ⟨g, p, none⟩) 32 32) (hy : a.eval y = vy) (hl : Sl w vy l) (h32 : l = [] ∨ l.length = 32)
    (hC : At w g C t) (hfit : p + 32 ≤ C.size) (C' : Array Value) (hC' : (if l = [] then C else (C.toList.take p ++ u8s l ++ C.toList.drop (p + 32)).toArray) = C')
    (h : ∀ n w', At w' g C' t → (∀ k, k ≠ g → w'.heap[k]? = w.heap[k]?) → (∀ B a, Below B a w → B ≤ g → Below B a w') → S w' ∧ wpPlan Try.prog ops Q S r (a.put o.dst n) w') : wpPlan Try.prog ops Q S (.sole i r) a w := by
  obtain ⟨a0, cap, rfl, _, hr⟩ := hl
  refine wpOp_at ho hw ?_
  unfold Oper.wp execOp
  by_cases hne : l = []
  · subst hne
    rw [if_pos rfl] at hC'
    subst hC'
    have hrun := run_copy_none (P := Try.prog) w 27 27 o.type 5 (some ⟨g, p, none⟩) a0 32 32 0 cap Try.underlying27 infoB (by simp)
    simp only [hop, resolve, invoke, builtin, Sem.run_bind, Sem.run_pure, Result.andThen_ok, List.map_toArray, List.map_cons, List.map_nil, hx, hy, List.length_nil, hrun]
    exact h _ _ hC (fun _ _ => rfl) (fun _ _ hb _ => hb)
  · rw [if_neg hne] at hC'
    have hl32 : l.length = 32 := by rcases h32 with h | h; exact absurd h hne; exact h
    obtain ⟨bb, oo, rfl, _, hc⟩ := hr hne
    have hrun := run_copy_row (P := Try.prog) w 27 27 o.type 5 g p 32 32 ⟨bb, oo, none⟩ l.length cap C t (u8s l) Try.underlying27 infoB hC (by rw [u8s_length, hl32]; rfl) (fun j v hj => by
      have hjk : j < l.length := by
        have := (List.getElem?_eq_some_iff.1 hj).1
        rwa [u8s_length] at this
      rw [Addr.add_mid, hc j hjk, ← hj, u8s_get _ _ hjk]) (by rw [u8s_length, hl32]; exact hfit) (u8s_cells l)
    have e : (u8s l).length = 32 := by rw [u8s_length]; exact hl32
    rw [e, hC'] at hrun
    simp only [hop, resolve, invoke, builtin, Sem.run_bind, Sem.run_pure, Result.andThen_ok, List.map_toArray, List.map_cons, List.map_nil, hx, hy, hrun]
    exact h _ _ (hC.row _) (fun k hk => setRow_other w g k _ hk) (fun B a hb hB => below_row hb hB _)
/-- Where take stands: the reader, the result, the anchor that is filled. -/
structure TkInv (w : World) (br : Nat) (Z C : Array Value) (b : List (BitVec 8)) (e : Nat) (W : World) : Prop where
  r : RPk W br b e
  ar : At W w.heap.size Z 31
  ag : At W (w.heap.size + 1) C 31
  o : But br w W
  k : ∀ B x, Below B x w → B ≤ br → Below B x W
section
variable {w W W' : World} {br : Nat} {Z C C' : Array Value} {b b' : List (BitVec 8)} {e e' : Nat}
theorem TkInv.call (h : TkInv w br Z C b e W) (hp : PEnd RPk W br b' e' W') (hbr : br < w.heap.size) : TkInv w br Z C b' e' W' :=
  ⟨hp.r, h.ar.but hp.o (by omega), h.ag.but hp.o (by omega), ⟨Nat.le_trans h.o.size hp.o.size, fun k hk hne => (hp.o.block k (Nat.lt_of_lt_of_le hk h.o.size) hne).trans (h.o.block k hk hne)⟩, fun B x hB hle => hp.k B x (h.k B x hB hle) hle⟩
theorem TkInv.store (h : TkInv w br Z C b e W) (ha : At W' (w.heap.size + 1) C' 31) (ho : ∀ k, k ≠ w.heap.size + 1 → W'.heap[k]? = W.heap[k]?) (hk : ∀ B x, Below B x W → B ≤ w.heap.size + 1 → Below B x W') (hbr : br < w.heap.size) : TkInv w br Z C' b e W' := by
  have hs : W.heap.size ≤ W'.heap.size := (hk _ _ (Below.refl (w.heap.size + 1) W) (Nat.le_refl _)).size
  have hb : But (w.heap.size + 1) W W' := ⟨hs, fun k _ hne => ho k hne⟩
  exact ⟨h.r.above hb (by omega), h.ar.but hb (by omega), ha, ⟨Nat.le_trans h.o.size hs, fun k hk2 hne => (ho k (by omega)).trans (h.o.block k hk2 hne)⟩, fun B x hB hle => hk B x (h.k B x hB hle) (by omega)⟩
theorem TkInv.drew (h : TkInv w br Z C b e W) (_hbr : br < w.heap.size) : TkInv w br Z C b e W.drew :=
  ⟨h.r.below (Below.refl _ _).drew, h.ar.below (Below.refl _ _).drew h.ar.lt, h.ag.below (Below.refl _ _).drew h.ag.lt, ⟨h.o.size, h.o.block⟩, fun B x hB hle => (h.k B x hB hle).drew⟩
theorem TkInv.done {D : Array Value} (h : TkInv w br Z C b e W) (hbr : br < w.heap.size) : PEnd RPk w br b e (W.setRow w.heap.size D) := by
  have hb : But w.heap.size W (W.setRow w.heap.size D) := ⟨by simp, fun k _ hne => setRow_other W _ k _ hne⟩
  exact ⟨h.r.above hb hbr, ⟨Nat.le_trans h.o.size hb.size, fun k hk hne => (setRow_other W _ k _ (by omega)).trans (h.o.block k hk hne)⟩, fun B x hB hle => below_row (h.k B x hB hle) (by omega) _⟩
end
end Sha
end Go.Proofs.Ytknaimpnkflfnaa
