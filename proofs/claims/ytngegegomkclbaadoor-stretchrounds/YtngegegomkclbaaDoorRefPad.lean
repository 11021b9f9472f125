/- The document's padded text: its walk; it is the text with the padding that the program lays behind it. -/
import Derived.Test.YtngegegomkclbaaDoorRefAll
import Derived.Test.YtngegegomkclbaaDoorBytes
namespace Go.Proofs.YtngegegomkclbaaDoor
namespace Sha
open Go.RowKit Mem

theorem ownV_B {w : World} {B : Nat} {v : Value} {l : List (BitVec 8)} (h : OwnV w B 5 v (u8s l)) : OwnB w B v l := by
  unfold OwnV at h
  rw [u8s_length] at h
  exact h
theorem ownB_V {w : World} {B : Nat} {v : Value} {l : List (BitVec 8)} (h : OwnB w B v l) : OwnV w B 5 v (u8s l) := by
  unfold OwnV
  rw [u8s_length]
  exact h
theorem elemB8 : elemB Tryd.prog 22 5 (.int .u8 0) 1 := ⟨Tryd.underlying22, infoU8⟩
/-! ### the padding, plainly -/
def lens (m : Nat) (i : Nat) : List (BitVec 8) := (List.range i).map (lenByte m)
theorem lens_next (m i : Nat) : lens m (i + 1) = lens m i ++ [lenByte m i] := by simp [lens, List.range_succ]
theorem padRow_get (q m : Nat) (hq : q ≤ 64) : ∀ i j, i ≤ 8 → (padRow q m i).getD j 0 = if q ≤ j ∧ j < q + i then lenByte m (j - q) else P0.getD j 0
  | 0, j, _ => by simp [padRow]; omega
  | i + 1, j, hi => by
    have ih := padRow_get q m hq i j (by omega)
    have hl := padRow_length q m i
    rw [padRow]
    by_cases hj : j = q + i
    · subst hj
      rw [if_pos (by omega), List.getD_eq_getElem?_getD, List.getElem?_set_self (by rw [hl]; omega)]
      simp
    · rw [List.getD_eq_getElem?_getD, List.getElem?_set_ne (Ne.symm hj), ← List.getD_eq_getElem?_getD, ih]
      by_cases h : q ≤ j ∧ j < q + i
      · rw [if_pos h, if_pos (by omega)]
      · rw [if_neg h, if_neg (by omega)]
theorem P0_get (j : Nat) (h : j < 72) : P0.getD j 0 = if j = 0 then 128 else 0 := by
  cases j with
  | zero => rfl
  | succ j =>
    rw [if_neg (by omega)]
    unfold P0
    rw [List.getD_cons_succ, List.getD_eq_getElem?_getD, List.getElem?_replicate, if_pos (by omega)]; rfl
theorem padBytes_eq (n : Nat) : padBytes n = (128 :: List.replicate (padQ (n % 64) - 1) 0) ++ lens (n * 8) 8 := by
  have hq := padQ_bd (n % 64) (Nat.mod_lt _ (by decide))
  unfold padBytes
  generalize padQ (n % 64) = q at *
  apply List.ext_getElem (by simp [padRow_length, lens]; omega)
  intro j h1 h2
  have hj : j < q + 8 := by simpa [padRow_length] using (by simp at h1; omega)
  have e1 : (List.take (q + 8) (padRow q (n * 8) 8))[j] = (padRow q (n * 8) 8).getD j 0 := by
    simp [List.getD_eq_getElem?_getD, List.getElem_take, padRow_length, show j < 72 by omega]
  rw [e1, padRow_get q (n * 8) hq.2 8 j (Nat.le_refl _), P0_get j (by omega)]
  by_cases hqj : q ≤ j
  · rw [if_pos ⟨hqj, hj⟩, List.getElem_append_right (by simp; omega)]
    simp [lens, show q - 1 + 1 = q by omega]
  · rw [if_neg (by omega), List.getElem_append_left (by simp; omega)]
    cases j with
    | zero => rfl
    | succ j => simp
/-- The text with 128 and z bytes 0. -/
def padZ (b : List (BitVec 8)) (z : Nat) : List (BitVec 8) := b ++ 128 :: List.replicate z 0
theorem padZ_next (b : List (BitVec 8)) (z : Nat) : padZ b (z + 1) = padZ b z ++ [0] := by
  unfold padZ
  rw [List.replicate_succ', List.append_assoc]; rfl
theorem padZ_length (b : List (BitVec 8)) (z : Nat) : (padZ b z).length = b.length + 1 + z := by simp [padZ]; omega
theorem u8s_snoc (l : List (BitVec 8)) (x : BitVec 8) : u8s (l ++ [x]) = u8s l ++ [.int .u8 (x.toNat : Int)] := by simp [u8s]
def ZRel (w : World) (b : List (BitVec 8)) (z0 : Nat) (v : Value) (wr : World) : Prop := ∃ z : Nat, z ≤ z0 ∧ OwnB wr w.heap.size v (padZ b z) ∧ Below w.heap.size w wr
def LRel (w : World) (T : List (BitVec 8)) (m : Nat) (v i : Value) (wr : World) : Prop :=
  ∃ k : Nat, k ≤ 8 ∧ i = .int .i64 (56 - 8 * (k : Int)) ∧ OwnB wr w.heap.size v (T ++ lens m k) ∧ Below w.heap.size w wr
def PadEnd (w : World) (T : List (BitVec 8)) (e : Ending) (w' : World) : Prop := ∃ v, e = .returned v ∧ OwnB w' w.heap.size v T ∧ Below w.heap.size w w'
set_option maxRecDepth 100000 in
set_option maxHeartbeats 1000000 in
theorem pad_ref (b : List (BitVec 8)) (v : Value) (w : World) (hb : Sl w v b) (lb : b.length ≤ 1099511627776) : Calls Tryd.prog 34 #[v] w (PadEnd w (b ++ padBytes b.length)) := by
  have HB := Lib.hid hb
  obtain ⟨a0, c0, rfl, _, _⟩ := hb
  obtain ⟨n, hn⟩ : ∃ n, n = b.length := ⟨_, rfl⟩
  have hq := padQ_bd (n % 64) (Nat.mod_lt _ (by decide))
  obtain ⟨q, hqq⟩ : ∃ q, q = padQ (n % 64) := ⟨_, rfl⟩
  rw [← hqq] at hq
  have hmod : ∀ z, z + 1 ≤ q → ((n + 1 + z) % 64 = 56 ↔ z + 1 = q) := fun z hz => by
    rw [hqq] at hz ⊢
    unfold padQ at hz ⊢
    split at hz <;> split <;> omega
  have hfin : b ++ padBytes n = padZ b (q - 1) ++ lens (n * 8) 8 := by
    rw [padBytes_eq, ← hqq, padZ, List.append_assoc]
  rw [← hn] at lb HB ⊢
  rw [hfin]
  have HN := Lib.hid hn; have MOD := Lib.hid hmod; have HQ := Lib.hid hq
  clear hn hmod hqq hfin hq
  go_enter Tryd.func34, Tryd.ntmps34
  go_wp2_with (first
    | (at_builtin; refine wpList_append_bytes (by rfl) (.const (.slice none 0 0)) _ (by rfl) w.heap.size (.slice none 0 0) (.slice a0 n c0) [] b (by rfl) (OwnB.nil _ _) (by rfl) HB.out (by have := HN.out; simp; omega) (Nat.le_refl _) ?_; intro v5 w5 ho5 hk5 hb5; have HO5 := Lib.hid (ownB_V ho5); have B5 := Lib.hid hb5; clear ho5 hk5 hb5)
    | (at_builtin; refine wpList_append_lit (by rfl) _ _ 22 (by rfl) (.int .u8 128) (.int .u8 0) 1 elemB8 (by rfl) (by rfl) HO5.out (by rfl) (by rfl) (by have := HN.out; simp [u8s_length]; omega) (by have := HN.out; simp [u8s_length]; omega) B5.out.size ?_; intro v6 w6 ho6 hk6 hb6 _; have HO6 := Lib.hid ho6; have B6 := Lib.hid (B5.out.trans hb6); clear ho6 hk6 hb6))
  have h0 : ZRel w b (q - 1) v6 w6 := ⟨0, Nat.zero_le _, ownV_B ((show u8s (padZ b 0) = u8s ([] ++ b) ++ [.int .u8 128] by simp [padZ, u8s]) ▸ HO6.out), B6.out⟩
  have H0 := Lib.hid h0
  clear h0 HO5 HO6 B5 B6
  go_loopw [3] (fun v wr => ZRel w b (q - 1) v wr) (fun v _ => 200 + n - (match v with | .slice _ l _ => l | _ => 0))
  case atStart => exact H0.out
  case round =>
    obtain ⟨z, hz, how, hbr⟩ := hrel
    have hov := ownB_V how
    obtain ⟨a1, c1, hv1, -, -⟩ := how.open
    have hl := padZ_length b z
    rw [← HN.out] at hl
    rw [hl] at hv1
    subst hv1
    have hmz := MOD.out z (by have := HQ.out; omega)
    by_cases hlt : z < q - 1
    · have hm : ¬ (((n + 1 + z : Nat) : Int) % 64 = 56) := by have := hmz; omega
      have hl1 : (u8s (padZ b z)).length = n + 1 + z := by rw [u8s_length, hl]
      have H1 := Lib.hid (show ((u8s (padZ b z)).length + 1) * 1 ≤ 140737488355328 by have := HQ.out; omega)
      have H2 := Lib.hid (show (u8s (padZ b z)).length < 140737488355328 by have := HQ.out; omega)
      have OV := Lib.hid hov; have BR := Lib.hid hbr
      clear hov hbr how hmz hl hl1
      go_wp2_with (first
        | (at_builtin; refine wpList_append_lit (by rfl) _ _ 22 (by rfl) (.int .u8 0) (.int .u8 0) 1 elemB8 (by rfl) (by rfl) OV.out (by rfl) (by rfl) H1.out H2.out BR.out.size ?_; intro v' w' ho' _ hb' _; have OV' := Lib.hid ho'; have BR' := Lib.hid (BR.out.trans hb'); clear ho' hb'))
      go_roundw
      case rel =>
        have e : u8s (padZ b (z + 1)) = u8s (padZ b z) ++ [.int .u8 0] := by rw [padZ_next]; simp [u8s]
        exact ⟨z + 1, by omega, ownV_B (e ▸ OV'.out), BR'.out⟩
      case measure =>
        have e : u8s (padZ b (z + 1)) = u8s (padZ b z) ++ [.int .u8 0] := by rw [padZ_next]; simp [u8s]
        obtain ⟨a2, c2, hv2, -, -⟩ := (ownV_B (e ▸ OV'.out)).open
        have hl2 := padZ_length b (z + 1)
        rw [← HN.out] at hl2
        rw [hl2] at hv2
        subst hv2
        have := HQ.out
        simp only
        omega
    · have hm : ((n + 1 + z : Nat) : Int) % 64 = 56 := by have := hmz; have := HQ.out; omega
      have hzq : z = q - 1 := by omega
      obtain ⟨T, hT⟩ : ∃ T, T = padZ b z := ⟨_, rfl⟩
      have hTl : T.length ≤ n + 64 := by rw [hT, hl]; have := HQ.out; omega
      rw [← hT] at how
      have HT := Lib.hid (hzq ▸ hT)
      have OW := Lib.hid how; have BR := Lib.hid hbr
      clear hov hbr how hmz hl hzq hT
      go_wp2_with fail
      obtain ⟨wo, rfl⟩ : ∃ wo : World, wo = wr := ⟨_, rfl⟩
      clear hm
      generalize Value.bool (((n : Int) + 1 + (z : Int)) % 64 != 56) = u13'
      go_loopw [3, 5] (fun v i wr => LRel w T (n * 8) v i wr) (fun _ i _ => (intOf i + 8).toNat)
      case atStart => exact ⟨0, by omega, rfl, by simpa [lens] using OW.out, BR.out⟩
      case round =>
        obtain ⟨k, hk, rfl, how, hbr⟩ := hrel
        have hov := ownB_V how
        obtain ⟨a2, c2, hv2, -, -⟩ := how.open
        have hl2 : (T ++ lens (n * 8) k).length = T.length + k := by simp [lens]
        rw [hl2] at hv2
        subst hv2
        by_cases hlt : k < 8
        · have hge : (56 - 8 * (k : Int)) ≥ 0 := by omega
          have H1 := Lib.hid (show ((u8s (T ++ lens (n * 8) k)).length + 1) * 1 ≤ 140737488355328 by rw [u8s_length, hl2]; omega)
          have H2 := Lib.hid (show (u8s (T ++ lens (n * 8) k)).length < 140737488355328 by rw [u8s_length, hl2]; omega)
          have OV := Lib.hid hov; have BRR := Lib.hid hbr
          clear hov hbr how hl2
          go_wp2_with (first
            | (at_builtin; refine wpList_append_lit (by rfl) _ _ 22 (by rfl) (.int .u8 ((n : Int) * 8 / 2 ^ (56 - 8 * k) % 256)) (.int .u8 0) 1 elemB8 (by rfl) (by rfl) OV.out (by rfl) (by rfl) H1.out H2.out BRR.out.size ?_; intro v' w' ho' _ hb' _; have OV' := Lib.hid ho'; have BR' := Lib.hid (BRR.out.trans hb'); clear ho' hb'))
          go_roundw
          case rel =>
            have e : u8s (T ++ lens (n * 8) (k + 1)) = u8s (T ++ lens (n * 8) k) ++ [.int .u8 ((n : Int) * 8 / 2 ^ (56 - 8 * k) % 256)] := by rw [lens_next, ← List.append_assoc, u8s_snoc, lenByte_val]
            exact ⟨k + 1, by omega, by go_num, ownV_B (e ▸ OV'.out), BR'.out⟩
          case measure => simp [intOf]; omega
        · have hge : ¬ (56 - 8 * (k : Int)) ≥ 0 := by omega
          have hk8 : k = 8 := by omega
          have hLk : lens (n * 8) 8 = lens (n * 8) k := by rw [hk8]
          have OWF := Lib.hid how; have BRR := Lib.hid hbr
          clear hov hbr how hl2 hk8
          go_wp2_with fail
          go_ret
          exact ⟨_, rfl, by rw [← HT.out]; first | exact OWF.out | (rw [hLk]; exact OWF.out), BRR.out⟩
end Sha
end Go.Proofs.YtngegegomkclbaaDoor
