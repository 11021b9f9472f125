/- The document's Lay: its walk. -/
import Derived.Test.YtknaimpnkflfnaaAncMay
import Derived.Test.YtknaimpnkflfnaaAncConv
import Derived.Deep.DeepCutAuto
namespace Go.Proofs.Ytknaimpnkflfnaa
namespace Sha
open Go.RowKit Mem
theorem conv_ib (z : Int) (h0 : 0 ≤ z) (h1 : z < 256) (w : World) : (convert 3 5 (.int .i64 z)).run Try.prog w = .ok (.int .u8 (B8 (BitVec.ofNat 8 z.toNat))) w := by
  have e : B8 (BitVec.ofNat 8 z.toNat) = z := by unfold B8; rw [BitVec.toNat_ofNat]; omega
  rw [e]
  have h2 : IntKind.u8.wrap z = z := by rw [IntKind.wrap_u8]; omega
  go_simp
theorem own_lit8 {w : World} {B : Nat} (x : BitVec 8) (hB : B ≤ w.heap.size) : OwnB (w.alloc (.cells #[.int .u8 (B8 x)] 5)) B (.slice (some ⟨w.heap.size, 0, none⟩) 1 1) [x] :=
  ⟨by simp [u8s], .inr ⟨w.heap.size, 1, #[.int .u8 (B8 x)], rfl, hB, at_new w _ _, by simp, by simp [maxLen], by simp, by simp [u8s, B8]⟩⟩
theorem own_low {w : World} {B B' : Nat} {v : Value} {l : List (BitVec 8)} (h : OwnB w B' v l) (hB : B ≤ B') : OwnB w B v l := ownsRow_base h hB
theorem own_hd7 {w : World} {B n : Nat} {v : Value} {l : List (BitVec 8)} (h : OwnB w B v l) (hn : n = l.length) : ∃ a c, v = .slice a n c := by
  obtain ⟨a, c, e, _⟩ := h.open
  exact ⟨a, c, by rw [e, hn]⟩
theorem plan_app_b {ops : Array Oper} {Q : Exit → Act → World → Prop} {S : World → Prop} {w : World} {a : Act} {o : Oper} {i : Nat} {r : Plan} (s x : Operand) (ho : ops.toList[i]? = some o) (hw : Region.wanted o (yielded ops a.tmps) = true) (hop : o.op = .call { callee := .builtin .append, args := #[s, x], argTypes := #[27, 27] })
    (B : Nat) (v vx : Value) (l m : List (BitVec 8)) (hs : a.eval s = v) (hown : OwnB w B v l) (hx : a.eval x = vx) (hsl : Sl w vx m) (hlen : l.length + m.length ≤ 1000) (hB : B ≤ w.heap.size)
    (h : ∀ v' w', OwnB w' B v' (l ++ m) → (∀ k, k < w.heap.size → v.ownBlock ≠ some k → w'.heap[k]? = w.heap[k]?) → Below B w w' → S w' ∧ wpPlan Try.prog ops Q S r (a.put o.dst v') w') : wpPlan Try.prog ops Q S (.sole i r) a w := by
  refine wpOp_at ho hw ?_
  obtain ⟨v', w', hrun, h2, h3⟩ := run_append_bytes hown hsl (by omega) hB o.type
  unfold Oper.wp execOp
  simp only [hop, resolve, invoke, builtin, Sem.run_bind, Sem.run_pure, Result.andThen_ok, List.map_toArray, List.map_cons, List.map_nil, hs, hx, hrun]
  exact h v' w' h2 (fun k hk hne => h3.block k hk (fun e => hne e.symm)) ((Below.refl _ _).grown h3 hB (fun g hg => (hown.lt g hg).1))
def slen : Value → Nat
  | .slice _ n _ => n
  | _ => 0
/-- How the document's Lay ends. -/
def LayEnd (w : World) (l : List (BitVec 8)) (e : Ending) (w' : World) : Prop := ∃ v, e = .returned (.tuple #[v, .int .i64 0]) ∧ OwnB w' w.heap.size v l ∧ Below w.heap.size w w'
set_option maxRecDepth 100000 in
set_option maxHeartbeats 16000000 in
theorem rlay_good (a : Anc) (h : a.Wf) (hm : mayA a = true) (w : World) : Calls Try.prog 9 #[.agg (ancC a)] w (LayEnd w (layA a)) := by
  have hmay := fun wx => rmay_any a h wx
  rw [hm] at hmay
  obtain ⟨⟨hv0, hv1⟩, ⟨hp0, hp1⟩, ⟨hh0, hh1⟩, ⟨hr0, hr1⟩, hre⟩ := (mayA_iff a).1 hm
  have he := h.epoch
  have hr2 := h.re
  have hc2 := h.com
  have hA := at_new w (ancC a) 26
  have hb : Below w.heap.size w (w.alloc (.cells (ancC a) 26)) := (Below.refl _ _).alloc (Nat.le_refl _) _
  obtain ⟨w1, hw1⟩ : ∃ w1, w1 = w.alloc (.cells (ancC a) 26) := ⟨_, rfl⟩
  rw [← hw1] at hA hb
  obtain ⟨L3, hL3⟩ : ∃ L, L = [BitVec.ofNat 8 a.ver.toNat] ++ nbytes a.pages.toNat 2 := ⟨_, rfl⟩
  obtain ⟨L4, hL4⟩ : ∃ L, L = L3 ++ nbytes a.epoch 4 ++ [BitVec.ofNat 8 a.hp.toNat] := ⟨_, rfl⟩
  obtain ⟨L5, hL5⟩ : ∃ L, L = L4 ++ a.head ++ [BitVec.ofNat 8 a.rp.toNat] := ⟨_, rfl⟩
  obtain ⟨L6, hL6⟩ : ∃ L, L = L5 ++ nbytes a.re 4 ++ a.root := ⟨_, rfl⟩
  obtain ⟨L7, hL7⟩ : ∃ L, L = L6 ++ nbytes a.com 8 := ⟨_, rfl⟩
  have hlay : layA a = L7 ++ List.replicate 43 0 := by rw [hL7, hL6, hL5, hL4, hL3]; simp only [layA, List.append_assoc]
  have ln3 : L3.length = 3 := by rw [hL3]; simp [nbytes_length]
  have ln4 : L4.length = 8 := by rw [hL4]; simp [nbytes_length, ln3]
  have ln5 : L5.length = 41 := by rw [hL5]; simp [h.head, ln4]
  have ln6 : L6.length = 77 := by rw [hL6]; simp [nbytes_length, h.root, ln5]
  have ln7 : L7.length = 85 := by rw [hL7]; simp [nbytes_length, ln6]
  have MAY := Lib.hid hmay; have AX := Lib.hid hA; have HB := Lib.hid hb; have WF := Lib.hid h; have HL := Lib.hid h.head; have RL := Lib.hid h.root
  have AS := Lib.hid (ancC_size h); have LAY := Lib.hid hlay
  have HL3 := Lib.hid hL3; have HL4 := Lib.hid hL4; have HL5 := Lib.hid hL5; have HL6 := Lib.hid hL6; have HL7 := Lib.hid hL7
  have LN3 := Lib.hid ln3; have LN4 := Lib.hid ln4; have LN5 := Lib.hid ln5; have LN6 := Lib.hid ln6; have LN7 := Lib.hid ln7
  clear hmay hA hb hm h hL3 hL4 hL5 hL6 hL7 ln3 ln4 ln5 ln6 ln7 hlay
  go_enter Try.func9, Try.ntmps9
  go_upto_region 1 with fail
  rw [← hw1]
  clear hw1
  go_wp2_with (refine wpList_load_all (by rfl) 26 _ (by rfl) w.heap.size (by rfl) _ Try.underlying26 (by rfl) (ancC a) _ AX.out (by rw [AS.out]; exact infoAncR) ?_)
  refine (MAY.out w1).mono ?_
  rintro e w2 ⟨rfl, hb2⟩
  have B0 : Hid (Below w1.heap.size w1 w2.drew) := hb2.drew
  clear hb2 MAY
  go_wp2_with fail
  go_cut [4] (fun x wx => ∃ v, v = x ∧ OwnB wx w1.heap.size v L3 ∧ Below w1.heap.size w1 wx)
  case first =>
    refine wp_region_plan_in (fun x => Below w1.heap.size w1 x) (.take 0 (.take 1 (.take 2 (.take 4 (.take 5 (.take 6 (.two 3 7 (.sole 7 (.sole 8 (.take 9 .done))) (.sole 3 (.sole 8 (.take 9 .done)))))))))) (by kernel_rfl) (by kernel_rfl) (by kernel_rfl) B0.out ?_
    refine plan_field 26 _ 0 w.heap.size 0 ⟨w.heap.size, 0, none⟩ (by rfl) (by rfl) (by rfl) (by first | (with_reducible exact Mem.ev_const _ _) | (with_reducible exact Mem.ev_zero _ _ _) | (with_reducible (apply Eq.trans (Mem.ev_tmp _ _ _)); simp only [List.getD_cons_succ, List.getD_cons_zero] <;> rfl)) (fun wx => by go_simp) ?_
    (simp only [Act.put, List.setIfInBounds_toArray, List.set_cons_zero, List.set_cons_succ])
    refine plan_cell 3 _ _ (.int .i64 a.ver) _ (by rfl) (by rfl) (by rfl) (by first | (with_reducible exact Mem.ev_const _ _) | (with_reducible exact Mem.ev_zero _ _ _) | (with_reducible (apply Eq.trans (Mem.ev_tmp _ _ _)); simp only [List.getD_cons_succ, List.getD_cons_zero] <;> rfl)) (fun w' hw' => ((AX.out.below hw' AX.out.lt).cell 0).trans (anc0 a)) Try.underlying3 (by rfl) ?_
    (simp only [Act.put, List.setIfInBounds_toArray, List.set_cons_zero, List.set_cons_succ])
    refine plan_conv _ _ _ _ (.int .u8 (B8 (BitVec.ofNat 8 a.ver.toNat))) (by rfl) (by rfl) (by rfl) (by first | (with_reducible exact Mem.ev_const _ _) | (with_reducible exact Mem.ev_zero _ _ _) | (with_reducible (apply Eq.trans (Mem.ev_tmp _ _ _)); simp only [List.getD_cons_succ, List.getD_cons_zero] <;> rfl)) (fun wx => conv_ib a.ver (by omega) (by omega) wx) ?_
    (simp only [Act.put, List.setIfInBounds_toArray, List.set_cons_zero, List.set_cons_succ])
    refine plan_field 26 _ 1 w.heap.size 0 ⟨w.heap.size, 1, none⟩ (by rfl) (by rfl) (by rfl) (by first | (with_reducible exact Mem.ev_const _ _) | (with_reducible exact Mem.ev_zero _ _ _) | (with_reducible (apply Eq.trans (Mem.ev_tmp _ _ _)); simp only [List.getD_cons_succ, List.getD_cons_zero] <;> rfl)) (fun wx => by go_simp) ?_
    (simp only [Act.put, List.setIfInBounds_toArray, List.set_cons_zero, List.set_cons_succ])
    refine plan_cell 3 _ _ (.int .i64 a.pages) _ (by rfl) (by rfl) (by rfl) (by first | (with_reducible exact Mem.ev_const _ _) | (with_reducible exact Mem.ev_zero _ _ _) | (with_reducible (apply Eq.trans (Mem.ev_tmp _ _ _)); simp only [List.getD_cons_succ, List.getD_cons_zero] <;> rfl)) (fun w' hw' => ((AX.out.below hw' AX.out.lt).cell 1).trans (anc1 a)) Try.underlying3 (by rfl) ?_
    (simp only [Act.put, List.setIfInBounds_toArray, List.set_cons_zero, List.set_cons_succ])
    refine plan_conv _ _ _ _ (.int .u64 ((a.pages.toNat : Nat) : Int)) (by rfl) (by rfl) (by rfl) (by first | (with_reducible exact Mem.ev_const _ _) | (with_reducible exact Mem.ev_zero _ _ _) | (with_reducible (apply Eq.trans (Mem.ev_tmp _ _ _)); simp only [List.getD_cons_succ, List.getD_cons_zero] <;> rfl)) (fun wx => conv_iu a.pages (by omega) (by omega) wx) ?_
    (simp only [Act.put, List.setIfInBounds_toArray, List.set_cons_zero, List.set_cons_succ])
    refine plan_two ?_ ?_
    · refine plan_slice 27 5 1 _ #[.int .u8 (B8 (BitVec.ofNat 8 a.ver.toNat))] (by rfl) (by rfl) (by rfl) Try.underlying27 (by kernel_rfl) (B0.out.alloc B0.out.size _) ?_
      (simp only [Act.put, List.setIfInBounds_toArray, List.set_cons_zero, List.set_cons_succ])
      have b3 : Below w1.heap.size w1 (w2.drew.alloc (.cells #[.int .u8 (B8 (BitVec.ofNat 8 a.ver.toNat))] 5)) := B0.out.alloc B0.out.size _
      have k3 : Below w2.drew.heap.size w2.drew (w2.drew.alloc (.cells #[.int .u8 (B8 (BitVec.ofNat 8 a.ver.toNat))] 5)) := (Below.refl _ _).alloc (Nat.le_refl _) _
      have o3 := own_lit8 (w := w2.drew) (B := w1.heap.size) (BitVec.ofNat 8 a.ver.toNat) B0.out.size
      generalize hg3 : w2.drew.heap.size = g3 at *
      generalize w2.drew.alloc (.cells #[.int .u8 (B8 (BitVec.ofNat 8 a.ver.toNat))] 5) = w3l at *
      rw [← hg3] at k3
      clear hg3
      have Bw3l := Lib.hid b3; have O3 := Lib.hid o3
      clear b3 k3 o3
      refine plan_call 25 _ _ _ (by kernel_rfl) (by rfl) (by rfl) (by rfl) (by first | exact Mem.ev_none _ | (simp only [List.map_toArray, List.map_cons, List.map_nil, Mem.ev_tmp, List.getD_cons_succ, List.getD_cons_zero] <;> rfl)) ?_
      refine (rlow_any a.pages.toNat 2 _ (by omega) (by decide)).mono ?_
      rintro o w7c ⟨v7, rfl, ho7, hb7⟩
      obtain ⟨a7, c7, rfl⟩ := own_hd7 ho7 (show 2 = _ by rw [nbytes_length])
      replace O3 := Lib.hid (O3.out.below hb7)
      have Bw7c : Hid (Below w1.heap.size w1 w7c) := Bw3l.out.trans (hb7.mono Bw3l.out.size)
      have O7 := Lib.hid (own_low ho7 Bw3l.out.size)
      clear ho7 hb7
      refine ⟨_, rfl, Bw7c.out, ?_⟩
      (simp only [Act.put, List.setIfInBounds_toArray, List.set_cons_zero, List.set_cons_succ])
      refine plan_app_b _ _ (by rfl) (by rfl) (by rfl) w1.heap.size (.slice (some ⟨g3, 0, none⟩) 1 1) (.slice a7 2 c7) ([BitVec.ofNat 8 a.ver.toNat]) (nbytes a.pages.toNat 2) (by first | (with_reducible exact Mem.ev_const _ _) | (with_reducible exact Mem.ev_zero _ _ _) | (with_reducible (apply Eq.trans (Mem.ev_tmp _ _ _)); simp only [List.getD_cons_succ, List.getD_cons_zero] <;> rfl)) O3.out (by first | (with_reducible exact Mem.ev_const _ _) | (with_reducible exact Mem.ev_zero _ _ _) | (with_reducible (apply Eq.trans (Mem.ev_tmp _ _ _)); simp only [List.getD_cons_succ, List.getD_cons_zero] <;> rfl)) O7.out.sl (by have _h1 := HL.out; have _h2 := RL.out; have _h3 := nbytes_length a.pages.toNat 2; have _h4 := nbytes_length a.epoch 4; have _h5 := nbytes_length a.re 4; simp <;> omega) Bw7c.out.size ?_
      intro v8 w8a ho8 hk8 hb8
      have Bw8a : Hid (Below w1.heap.size w1 w8a) := Bw7c.out.trans hb8
      have O8 := Lib.hid ho8
      clear ho8 hk8 hb8
      refine ⟨Bw8a.out, ?_⟩
      (simp only [Act.put, List.setIfInBounds_toArray, List.set_cons_zero, List.set_cons_succ])
      (first | (refine plan_move _ _ (by rfl) (by rfl) (.inl (by rfl)) (by first | (with_reducible exact Mem.ev_const _ _) | (with_reducible exact Mem.ev_zero _ _ _) | (with_reducible (apply Eq.trans (Mem.ev_tmp _ _ _)); simp only [List.getD_cons_succ, List.getD_cons_zero] <;> rfl)) ?_) | (refine plan_move _ _ (by rfl) (by rfl) (.inr (by rfl)) (by first | (with_reducible exact Mem.ev_const _ _) | (with_reducible exact Mem.ev_zero _ _ _) | (with_reducible (apply Eq.trans (Mem.ev_tmp _ _ _)); simp only [List.getD_cons_succ, List.getD_cons_zero] <;> rfl)) ?_) | (refine plan_pick_t _ _ _ _ (by rfl) (by rfl) (by rfl) (by first | (with_reducible exact Mem.ev_const _ _) | (with_reducible exact Mem.ev_zero _ _ _) | (with_reducible (apply Eq.trans (Mem.ev_tmp _ _ _)); simp only [List.getD_cons_succ, List.getD_cons_zero] <;> rfl)) (by first | (with_reducible exact Mem.ev_const _ _) | (with_reducible exact Mem.ev_zero _ _ _) | (with_reducible (apply Eq.trans (Mem.ev_tmp _ _ _)); simp only [List.getD_cons_succ, List.getD_cons_zero] <;> rfl)) ?_) | (refine plan_pick_f _ _ _ _ (by rfl) (by rfl) (by rfl) (by first | (with_reducible exact Mem.ev_const _ _) | (with_reducible exact Mem.ev_zero _ _ _) | (with_reducible (apply Eq.trans (Mem.ev_tmp _ _ _)); simp only [List.getD_cons_succ, List.getD_cons_zero] <;> rfl)) (by first | (with_reducible exact Mem.ev_const _ _) | (with_reducible exact Mem.ev_zero _ _ _) | (with_reducible (apply Eq.trans (Mem.ev_tmp _ _ _)); simp only [List.getD_cons_succ, List.getD_cons_zero] <;> rfl)) ?_))
      (simp only [Act.put, List.setIfInBounds_toArray, List.set_cons_zero, List.set_cons_succ])
      refine plan_nil ?_
      go_wp2_with fail
      go_meet
      exact ⟨_, rfl, by rw [HL3.out]; simpa [List.append_assoc] using O8.out, Bw8a.out⟩
    · refine plan_call 25 _ _ _ (by kernel_rfl) (by rfl) (by rfl) (by rfl) (by first | exact Mem.ev_none _ | (simp only [List.map_toArray, List.map_cons, List.map_nil, Mem.ev_tmp, List.getD_cons_succ, List.getD_cons_zero] <;> rfl)) ?_
      refine (rlow_any a.pages.toNat 2 _ (by omega) (by decide)).mono ?_
      rintro o w7c ⟨v7, rfl, ho7, hb7⟩
      obtain ⟨a7, c7, rfl⟩ := own_hd7 ho7 (show 2 = _ by rw [nbytes_length])
      have Bw7c : Hid (Below w1.heap.size w1 w7c) := B0.out.trans (hb7.mono B0.out.size)
      have O7 := Lib.hid (own_low ho7 B0.out.size)
      clear ho7 hb7
      refine ⟨_, rfl, Bw7c.out, ?_⟩
      (simp only [Act.put, List.setIfInBounds_toArray, List.set_cons_zero, List.set_cons_succ])
      refine plan_slice 27 5 1 _ #[.int .u8 (B8 (BitVec.ofNat 8 a.ver.toNat))] (by rfl) (by rfl) (by rfl) Try.underlying27 (by kernel_rfl) (Bw7c.out.alloc Bw7c.out.size _) ?_
      (simp only [Act.put, List.setIfInBounds_toArray, List.set_cons_zero, List.set_cons_succ])
      have b3 : Below w1.heap.size w1 (w7c.alloc (.cells #[.int .u8 (B8 (BitVec.ofNat 8 a.ver.toNat))] 5)) := Bw7c.out.alloc Bw7c.out.size _
      have k3 : Below w7c.heap.size w7c (w7c.alloc (.cells #[.int .u8 (B8 (BitVec.ofNat 8 a.ver.toNat))] 5)) := (Below.refl _ _).alloc (Nat.le_refl _) _
      have o3 := own_lit8 (w := w7c) (B := w1.heap.size) (BitVec.ofNat 8 a.ver.toNat) Bw7c.out.size
      generalize hg3 : w7c.heap.size = g3 at *
      generalize w7c.alloc (.cells #[.int .u8 (B8 (BitVec.ofNat 8 a.ver.toNat))] 5) = w3l at *
      have N3 : ∀ k, ((.slice a7 2 c7) : Value).ownBlock = some k → k ≠ g3 := fun k hk => by have h := (O7.out.lt k hk).2; omega
      rw [← hg3] at k3
      clear hg3
      replace O7 := Lib.hid (O7.out.below k3)
      have Bw3l := Lib.hid b3; have O3 := Lib.hid o3
      clear b3 k3 o3
      refine plan_app_b _ _ (by rfl) (by rfl) (by rfl) w1.heap.size (.slice (some ⟨g3, 0, none⟩) 1 1) (.slice a7 2 c7) ([BitVec.ofNat 8 a.ver.toNat]) (nbytes a.pages.toNat 2) (by first | (with_reducible exact Mem.ev_const _ _) | (with_reducible exact Mem.ev_zero _ _ _) | (with_reducible (apply Eq.trans (Mem.ev_tmp _ _ _)); simp only [List.getD_cons_succ, List.getD_cons_zero] <;> rfl)) O3.out (by first | (with_reducible exact Mem.ev_const _ _) | (with_reducible exact Mem.ev_zero _ _ _) | (with_reducible (apply Eq.trans (Mem.ev_tmp _ _ _)); simp only [List.getD_cons_succ, List.getD_cons_zero] <;> rfl)) O7.out.sl (by have _h1 := HL.out; have _h2 := RL.out; have _h3 := nbytes_length a.pages.toNat 2; have _h4 := nbytes_length a.epoch 4; have _h5 := nbytes_length a.re 4; simp <;> omega) Bw3l.out.size ?_
      intro v8 w8a ho8 hk8 hb8
      have Bw8a : Hid (Below w1.heap.size w1 w8a) := Bw3l.out.trans hb8
      have O8 := Lib.hid ho8
      clear ho8 hk8 hb8
      refine ⟨Bw8a.out, ?_⟩
      (simp only [Act.put, List.setIfInBounds_toArray, List.set_cons_zero, List.set_cons_succ])
      (first | (refine plan_move _ _ (by rfl) (by rfl) (.inl (by rfl)) (by first | (with_reducible exact Mem.ev_const _ _) | (with_reducible exact Mem.ev_zero _ _ _) | (with_reducible (apply Eq.trans (Mem.ev_tmp _ _ _)); simp only [List.getD_cons_succ, List.getD_cons_zero] <;> rfl)) ?_) | (refine plan_move _ _ (by rfl) (by rfl) (.inr (by rfl)) (by first | (with_reducible exact Mem.ev_const _ _) | (with_reducible exact Mem.ev_zero _ _ _) | (with_reducible (apply Eq.trans (Mem.ev_tmp _ _ _)); simp only [List.getD_cons_succ, List.getD_cons_zero] <;> rfl)) ?_) | (refine plan_pick_t _ _ _ _ (by rfl) (by rfl) (by rfl) (by first | (with_reducible exact Mem.ev_const _ _) | (with_reducible exact Mem.ev_zero _ _ _) | (with_reducible (apply Eq.trans (Mem.ev_tmp _ _ _)); simp only [List.getD_cons_succ, List.getD_cons_zero] <;> rfl)) (by first | (with_reducible exact Mem.ev_const _ _) | (with_reducible exact Mem.ev_zero _ _ _) | (with_reducible (apply Eq.trans (Mem.ev_tmp _ _ _)); simp only [List.getD_cons_succ, List.getD_cons_zero] <;> rfl)) ?_) | (refine plan_pick_f _ _ _ _ (by rfl) (by rfl) (by rfl) (by first | (with_reducible exact Mem.ev_const _ _) | (with_reducible exact Mem.ev_zero _ _ _) | (with_reducible (apply Eq.trans (Mem.ev_tmp _ _ _)); simp only [List.getD_cons_succ, List.getD_cons_zero] <;> rfl)) (by first | (with_reducible exact Mem.ev_const _ _) | (with_reducible exact Mem.ev_zero _ _ _) | (with_reducible (apply Eq.trans (Mem.ev_tmp _ _ _)); simp only [List.getD_cons_succ, List.getD_cons_zero] <;> rfl)) ?_))
      (simp only [Act.put, List.setIfInBounds_toArray, List.set_cons_zero, List.set_cons_succ])
      refine plan_nil ?_
      go_wp2_with fail
      go_meet
      exact ⟨_, rfl, by rw [HL3.out]; simpa [List.append_assoc] using O8.out, Bw8a.out⟩
  case rest =>
    obtain ⟨v4, rfl, ho, hb⟩ := hcut
    have OZ : Hid (OwnB wc.drew w1.heap.size v4 L3) := ho.below (Below.refl _ _).drew
    have B0 : Hid (Below w1.heap.size w1 wc.drew) := hb.drew
    clear ho hb
    generalize wc = w3 at *
    go_wp2_with fail
    go_cut [4] (fun x wx => ∃ v, v = x ∧ OwnB wx w1.heap.size v L4 ∧ Below w1.heap.size w1 wx)
    case first =>
      refine wp_region_plan_in (fun x => Below w1.heap.size w1 x) (.take 0 (.take 1 (.take 2 (.take 3 (.take 6 (.take 7 (.take 8 (.two 4 9 (.two 5 9 (.sole 9 (.sole 10 (.take 11 .done))) (.sole 5 (.sole 10 (.take 11 .done)))) (.sole 4 (.sole 5 (.sole 10 (.take 11 .done)))))))))))) (by kernel_rfl) (by kernel_rfl) (by kernel_rfl) B0.out ?_
      (first | (refine plan_move _ _ (by rfl) (by rfl) (.inl (by rfl)) (by first | (with_reducible exact Mem.ev_const _ _) | (with_reducible exact Mem.ev_zero _ _ _) | (with_reducible (apply Eq.trans (Mem.ev_tmp _ _ _)); simp only [List.getD_cons_succ, List.getD_cons_zero] <;> rfl)) ?_) | (refine plan_move _ _ (by rfl) (by rfl) (.inr (by rfl)) (by first | (with_reducible exact Mem.ev_const _ _) | (with_reducible exact Mem.ev_zero _ _ _) | (with_reducible (apply Eq.trans (Mem.ev_tmp _ _ _)); simp only [List.getD_cons_succ, List.getD_cons_zero] <;> rfl)) ?_) | (refine plan_pick_t _ _ _ _ (by rfl) (by rfl) (by rfl) (by first | (with_reducible exact Mem.ev_const _ _) | (with_reducible exact Mem.ev_zero _ _ _) | (with_reducible (apply Eq.trans (Mem.ev_tmp _ _ _)); simp only [List.getD_cons_succ, List.getD_cons_zero] <;> rfl)) (by first | (with_reducible exact Mem.ev_const _ _) | (with_reducible exact Mem.ev_zero _ _ _) | (with_reducible (apply Eq.trans (Mem.ev_tmp _ _ _)); simp only [List.getD_cons_succ, List.getD_cons_zero] <;> rfl)) ?_) | (refine plan_pick_f _ _ _ _ (by rfl) (by rfl) (by rfl) (by first | (with_reducible exact Mem.ev_const _ _) | (with_reducible exact Mem.ev_zero _ _ _) | (with_reducible (apply Eq.trans (Mem.ev_tmp _ _ _)); simp only [List.getD_cons_succ, List.getD_cons_zero] <;> rfl)) (by first | (with_reducible exact Mem.ev_const _ _) | (with_reducible exact Mem.ev_zero _ _ _) | (with_reducible (apply Eq.trans (Mem.ev_tmp _ _ _)); simp only [List.getD_cons_succ, List.getD_cons_zero] <;> rfl)) ?_))
      (simp only [Act.put, List.setIfInBounds_toArray, List.set_cons_zero, List.set_cons_succ])
      refine plan_field 26 _ 2 w.heap.size 0 ⟨w.heap.size, 2, none⟩ (by rfl) (by rfl) (by rfl) (by first | (with_reducible exact Mem.ev_const _ _) | (with_reducible exact Mem.ev_zero _ _ _) | (with_reducible (apply Eq.trans (Mem.ev_tmp _ _ _)); simp only [List.getD_cons_succ, List.getD_cons_zero] <;> rfl)) (fun wx => by go_simp) ?_
      (simp only [Act.put, List.setIfInBounds_toArray, List.set_cons_zero, List.set_cons_succ])
      refine plan_cell 22 _ _ (.int .u32 (a.epoch : Int)) _ (by rfl) (by rfl) (by rfl) (by first | (with_reducible exact Mem.ev_const _ _) | (with_reducible exact Mem.ev_zero _ _ _) | (with_reducible (apply Eq.trans (Mem.ev_tmp _ _ _)); simp only [List.getD_cons_succ, List.getD_cons_zero] <;> rfl)) (fun w' hw' => ((AX.out.below hw' AX.out.lt).cell 2).trans (anc2 a)) Try.underlying22 (by rfl) ?_
      (simp only [Act.put, List.setIfInBounds_toArray, List.set_cons_zero, List.set_cons_succ])
      refine plan_conv _ _ _ _ (.int .u64 ((a.epoch : Nat) : Int)) (by rfl) (by rfl) (by rfl) (by first | (with_reducible exact Mem.ev_const _ _) | (with_reducible exact Mem.ev_zero _ _ _) | (with_reducible (apply Eq.trans (Mem.ev_tmp _ _ _)); simp only [List.getD_cons_succ, List.getD_cons_zero] <;> rfl)) (fun wx => conv_uu a.epoch (by omega) wx) ?_
      (simp only [Act.put, List.setIfInBounds_toArray, List.set_cons_zero, List.set_cons_succ])
      refine plan_field 26 _ 3 w.heap.size 0 ⟨w.heap.size, 3, none⟩ (by rfl) (by rfl) (by rfl) (by first | (with_reducible exact Mem.ev_const _ _) | (with_reducible exact Mem.ev_zero _ _ _) | (with_reducible (apply Eq.trans (Mem.ev_tmp _ _ _)); simp only [List.getD_cons_succ, List.getD_cons_zero] <;> rfl)) (fun wx => by go_simp) ?_
      (simp only [Act.put, List.setIfInBounds_toArray, List.set_cons_zero, List.set_cons_succ])
      refine plan_cell 3 _ _ (.int .i64 a.hp) _ (by rfl) (by rfl) (by rfl) (by first | (with_reducible exact Mem.ev_const _ _) | (with_reducible exact Mem.ev_zero _ _ _) | (with_reducible (apply Eq.trans (Mem.ev_tmp _ _ _)); simp only [List.getD_cons_succ, List.getD_cons_zero] <;> rfl)) (fun w' hw' => ((AX.out.below hw' AX.out.lt).cell 3).trans (anc3 a)) Try.underlying3 (by rfl) ?_
      (simp only [Act.put, List.setIfInBounds_toArray, List.set_cons_zero, List.set_cons_succ])
      refine plan_conv _ _ _ _ (.int .u8 (B8 (BitVec.ofNat 8 a.hp.toNat))) (by rfl) (by rfl) (by rfl) (by first | (with_reducible exact Mem.ev_const _ _) | (with_reducible exact Mem.ev_zero _ _ _) | (with_reducible (apply Eq.trans (Mem.ev_tmp _ _ _)); simp only [List.getD_cons_succ, List.getD_cons_zero] <;> rfl)) (fun wx => conv_ib a.hp (by omega) (by omega) wx) ?_
      (simp only [Act.put, List.setIfInBounds_toArray, List.set_cons_zero, List.set_cons_succ])
      refine plan_two ?_ ?_
      · refine plan_call 25 _ _ _ (by kernel_rfl) (by rfl) (by rfl) (by rfl) (by first | exact Mem.ev_none _ | (simp only [List.map_toArray, List.map_cons, List.map_nil, Mem.ev_tmp, List.getD_cons_succ, List.getD_cons_zero] <;> rfl)) ?_
        refine (rlow_any a.epoch 4 _ (by omega) (by decide)).mono ?_
        rintro o w4c ⟨v4, rfl, ho4, hb4⟩
        obtain ⟨a4, c4, rfl⟩ := own_hd7 ho4 (show 4 = _ by rw [nbytes_length])
        replace OZ := Lib.hid (OZ.out.below hb4)
        have Bw4c : Hid (Below w1.heap.size w1 w4c) := B0.out.trans (hb4.mono B0.out.size)
        have O4 := Lib.hid (own_low ho4 B0.out.size)
        clear ho4 hb4
        refine ⟨_, rfl, Bw4c.out, ?_⟩
        (simp only [Act.put, List.setIfInBounds_toArray, List.set_cons_zero, List.set_cons_succ])
        refine plan_two ?_ ?_
        · refine plan_app_b _ _ (by rfl) (by rfl) (by rfl) w1.heap.size v4 (.slice a4 4 c4) (L3) (nbytes a.epoch 4) (by first | (with_reducible exact Mem.ev_const _ _) | (with_reducible exact Mem.ev_zero _ _ _) | (with_reducible (apply Eq.trans (Mem.ev_tmp _ _ _)); simp only [List.getD_cons_succ, List.getD_cons_zero] <;> rfl)) OZ.out (by first | (with_reducible exact Mem.ev_const _ _) | (with_reducible exact Mem.ev_zero _ _ _) | (with_reducible (apply Eq.trans (Mem.ev_tmp _ _ _)); simp only [List.getD_cons_succ, List.getD_cons_zero] <;> rfl)) O4.out.sl (by have _h1 := HL.out; have _h2 := RL.out; have _h3 := nbytes_length a.pages.toNat 2; have _h4 := nbytes_length a.epoch 4; have _h5 := nbytes_length a.re 4; have _h6 := LN3.out; simp <;> omega) Bw4c.out.size ?_
          intro v5 w5a ho5 hk5 hb5
          have Bw5a : Hid (Below w1.heap.size w1 w5a) := Bw4c.out.trans hb5
          have O5 := Lib.hid ho5
          clear ho5 hk5 hb5
          refine ⟨Bw5a.out, ?_⟩
          (simp only [Act.put, List.setIfInBounds_toArray, List.set_cons_zero, List.set_cons_succ])
          refine plan_slice 27 5 1 _ #[.int .u8 (B8 (BitVec.ofNat 8 a.hp.toNat))] (by rfl) (by rfl) (by rfl) Try.underlying27 (by kernel_rfl) (Bw5a.out.alloc Bw5a.out.size _) ?_
          (simp only [Act.put, List.setIfInBounds_toArray, List.set_cons_zero, List.set_cons_succ])
          have b9 : Below w1.heap.size w1 (w5a.alloc (.cells #[.int .u8 (B8 (BitVec.ofNat 8 a.hp.toNat))] 5)) := Bw5a.out.alloc Bw5a.out.size _
          have k9 : Below w5a.heap.size w5a (w5a.alloc (.cells #[.int .u8 (B8 (BitVec.ofNat 8 a.hp.toNat))] 5)) := (Below.refl _ _).alloc (Nat.le_refl _) _
          have o9 := own_lit8 (w := w5a) (B := w1.heap.size) (BitVec.ofNat 8 a.hp.toNat) Bw5a.out.size
          generalize hg9 : w5a.heap.size = g9 at *
          generalize w5a.alloc (.cells #[.int .u8 (B8 (BitVec.ofNat 8 a.hp.toNat))] 5) = w9l at *
          have N9 : ∀ k, (v5 : Value).ownBlock = some k → k ≠ g9 := fun k hk => by have h := (O5.out.lt k hk).2; omega
          rw [← hg9] at k9
          clear hg9
          replace O5 := Lib.hid (O5.out.below k9)
          have Bw9l := Lib.hid b9; have O9 := Lib.hid o9
          clear b9 k9 o9
          refine plan_app_b _ _ (by rfl) (by rfl) (by rfl) w1.heap.size v5 (.slice (some ⟨g9, 0, none⟩) 1 1) (L3 ++ (nbytes a.epoch 4)) ([BitVec.ofNat 8 a.hp.toNat]) (by first | (with_reducible exact Mem.ev_const _ _) | (with_reducible exact Mem.ev_zero _ _ _) | (with_reducible (apply Eq.trans (Mem.ev_tmp _ _ _)); simp only [List.getD_cons_succ, List.getD_cons_zero] <;> rfl)) O5.out (by first | (with_reducible exact Mem.ev_const _ _) | (with_reducible exact Mem.ev_zero _ _ _) | (with_reducible (apply Eq.trans (Mem.ev_tmp _ _ _)); simp only [List.getD_cons_succ, List.getD_cons_zero] <;> rfl)) O9.out.sl (by have _h1 := HL.out; have _h2 := RL.out; have _h3 := nbytes_length a.pages.toNat 2; have _h4 := nbytes_length a.epoch 4; have _h5 := nbytes_length a.re 4; have _h6 := LN3.out; simp <;> omega) Bw9l.out.size ?_
          intro v10 w10a ho10 hk10 hb10
          have Bw10a : Hid (Below w1.heap.size w1 w10a) := Bw9l.out.trans hb10
          have O10 := Lib.hid ho10
          clear ho10 hk10 hb10
          refine ⟨Bw10a.out, ?_⟩
          (simp only [Act.put, List.setIfInBounds_toArray, List.set_cons_zero, List.set_cons_succ])
          (first | (refine plan_move _ _ (by rfl) (by rfl) (.inl (by rfl)) (by first | (with_reducible exact Mem.ev_const _ _) | (with_reducible exact Mem.ev_zero _ _ _) | (with_reducible (apply Eq.trans (Mem.ev_tmp _ _ _)); simp only [List.getD_cons_succ, List.getD_cons_zero] <;> rfl)) ?_) | (refine plan_move _ _ (by rfl) (by rfl) (.inr (by rfl)) (by first | (with_reducible exact Mem.ev_const _ _) | (with_reducible exact Mem.ev_zero _ _ _) | (with_reducible (apply Eq.trans (Mem.ev_tmp _ _ _)); simp only [List.getD_cons_succ, List.getD_cons_zero] <;> rfl)) ?_) | (refine plan_pick_t _ _ _ _ (by rfl) (by rfl) (by rfl) (by first | (with_reducible exact Mem.ev_const _ _) | (with_reducible exact Mem.ev_zero _ _ _) | (with_reducible (apply Eq.trans (Mem.ev_tmp _ _ _)); simp only [List.getD_cons_succ, List.getD_cons_zero] <;> rfl)) (by first | (with_reducible exact Mem.ev_const _ _) | (with_reducible exact Mem.ev_zero _ _ _) | (with_reducible (apply Eq.trans (Mem.ev_tmp _ _ _)); simp only [List.getD_cons_succ, List.getD_cons_zero] <;> rfl)) ?_) | (refine plan_pick_f _ _ _ _ (by rfl) (by rfl) (by rfl) (by first | (with_reducible exact Mem.ev_const _ _) | (with_reducible exact Mem.ev_zero _ _ _) | (with_reducible (apply Eq.trans (Mem.ev_tmp _ _ _)); simp only [List.getD_cons_succ, List.getD_cons_zero] <;> rfl)) (by first | (with_reducible exact Mem.ev_const _ _) | (with_reducible exact Mem.ev_zero _ _ _) | (with_reducible (apply Eq.trans (Mem.ev_tmp _ _ _)); simp only [List.getD_cons_succ, List.getD_cons_zero] <;> rfl)) ?_))
          (simp only [Act.put, List.setIfInBounds_toArray, List.set_cons_zero, List.set_cons_succ])
          refine plan_nil ?_
          go_wp2_with fail
          go_meet
          exact ⟨_, rfl, by rw [HL4.out]; simpa [List.append_assoc] using O10.out, Bw10a.out⟩
        · refine plan_slice 27 5 1 _ #[.int .u8 (B8 (BitVec.ofNat 8 a.hp.toNat))] (by rfl) (by rfl) (by rfl) Try.underlying27 (by kernel_rfl) (Bw4c.out.alloc Bw4c.out.size _) ?_
          (simp only [Act.put, List.setIfInBounds_toArray, List.set_cons_zero, List.set_cons_succ])
          have b9 : Below w1.heap.size w1 (w4c.alloc (.cells #[.int .u8 (B8 (BitVec.ofNat 8 a.hp.toNat))] 5)) := Bw4c.out.alloc Bw4c.out.size _
          have k9 : Below w4c.heap.size w4c (w4c.alloc (.cells #[.int .u8 (B8 (BitVec.ofNat 8 a.hp.toNat))] 5)) := (Below.refl _ _).alloc (Nat.le_refl _) _
          have o9 := own_lit8 (w := w4c) (B := w1.heap.size) (BitVec.ofNat 8 a.hp.toNat) Bw4c.out.size
          generalize hg9 : w4c.heap.size = g9 at *
          generalize w4c.alloc (.cells #[.int .u8 (B8 (BitVec.ofNat 8 a.hp.toNat))] 5) = w9l at *
          have N9 : ∀ k, (v4 : Value).ownBlock = some k → k ≠ g9 := fun k hk => by have h := (OZ.out.lt k hk).2; omega
          rw [← hg9] at k9
          clear hg9
          replace OZ := Lib.hid (OZ.out.below k9)
          replace O4 := Lib.hid (O4.out.below k9)
          have Bw9l := Lib.hid b9; have O9 := Lib.hid o9
          clear b9 k9 o9
          refine plan_app_b _ _ (by rfl) (by rfl) (by rfl) w1.heap.size v4 (.slice a4 4 c4) (L3) (nbytes a.epoch 4) (by first | (with_reducible exact Mem.ev_const _ _) | (with_reducible exact Mem.ev_zero _ _ _) | (with_reducible (apply Eq.trans (Mem.ev_tmp _ _ _)); simp only [List.getD_cons_succ, List.getD_cons_zero] <;> rfl)) OZ.out (by first | (with_reducible exact Mem.ev_const _ _) | (with_reducible exact Mem.ev_zero _ _ _) | (with_reducible (apply Eq.trans (Mem.ev_tmp _ _ _)); simp only [List.getD_cons_succ, List.getD_cons_zero] <;> rfl)) O4.out.sl (by have _h1 := HL.out; have _h2 := RL.out; have _h3 := nbytes_length a.pages.toNat 2; have _h4 := nbytes_length a.epoch 4; have _h5 := nbytes_length a.re 4; have _h6 := LN3.out; simp <;> omega) Bw9l.out.size ?_
          intro v5 w5a ho5 hk5 hb5
          have Bw5a : Hid (Below w1.heap.size w1 w5a) := Bw9l.out.trans hb5
          have O5 := Lib.hid ho5
          replace O9 := Lib.hid (O9.out.keep (w' := w5a) (fun k hk' => hk5 k (O9.out.lt k hk').2 (fun e => N9 k e (by simpa [Value.ownBlock] using hk'.symm))))
          clear ho5 hk5 hb5
          refine ⟨Bw5a.out, ?_⟩
          (simp only [Act.put, List.setIfInBounds_toArray, List.set_cons_zero, List.set_cons_succ])
          refine plan_app_b _ _ (by rfl) (by rfl) (by rfl) w1.heap.size v5 (.slice (some ⟨g9, 0, none⟩) 1 1) (L3 ++ (nbytes a.epoch 4)) ([BitVec.ofNat 8 a.hp.toNat]) (by first | (with_reducible exact Mem.ev_const _ _) | (with_reducible exact Mem.ev_zero _ _ _) | (with_reducible (apply Eq.trans (Mem.ev_tmp _ _ _)); simp only [List.getD_cons_succ, List.getD_cons_zero] <;> rfl)) O5.out (by first | (with_reducible exact Mem.ev_const _ _) | (with_reducible exact Mem.ev_zero _ _ _) | (with_reducible (apply Eq.trans (Mem.ev_tmp _ _ _)); simp only [List.getD_cons_succ, List.getD_cons_zero] <;> rfl)) O9.out.sl (by have _h1 := HL.out; have _h2 := RL.out; have _h3 := nbytes_length a.pages.toNat 2; have _h4 := nbytes_length a.epoch 4; have _h5 := nbytes_length a.re 4; have _h6 := LN3.out; simp <;> omega) Bw5a.out.size ?_
          intro v10 w10a ho10 hk10 hb10
          have Bw10a : Hid (Below w1.heap.size w1 w10a) := Bw5a.out.trans hb10
          have O10 := Lib.hid ho10
          clear ho10 hk10 hb10
          refine ⟨Bw10a.out, ?_⟩
          (simp only [Act.put, List.setIfInBounds_toArray, List.set_cons_zero, List.set_cons_succ])
          (first | (refine plan_move _ _ (by rfl) (by rfl) (.inl (by rfl)) (by first | (with_reducible exact Mem.ev_const _ _) | (with_reducible exact Mem.ev_zero _ _ _) | (with_reducible (apply Eq.trans (Mem.ev_tmp _ _ _)); simp only [List.getD_cons_succ, List.getD_cons_zero] <;> rfl)) ?_) | (refine plan_move _ _ (by rfl) (by rfl) (.inr (by rfl)) (by first | (with_reducible exact Mem.ev_const _ _) | (with_reducible exact Mem.ev_zero _ _ _) | (with_reducible (apply Eq.trans (Mem.ev_tmp _ _ _)); simp only [List.getD_cons_succ, List.getD_cons_zero] <;> rfl)) ?_) | (refine plan_pick_t _ _ _ _ (by rfl) (by rfl) (by rfl) (by first | (with_reducible exact Mem.ev_const _ _) | (with_reducible exact Mem.ev_zero _ _ _) | (with_reducible (apply Eq.trans (Mem.ev_tmp _ _ _)); simp only [List.getD_cons_succ, List.getD_cons_zero] <;> rfl)) (by first | (with_reducible exact Mem.ev_const _ _) | (with_reducible exact Mem.ev_zero _ _ _) | (with_reducible (apply Eq.trans (Mem.ev_tmp _ _ _)); simp only [List.getD_cons_succ, List.getD_cons_zero] <;> rfl)) ?_) | (refine plan_pick_f _ _ _ _ (by rfl) (by rfl) (by rfl) (by first | (with_reducible exact Mem.ev_const _ _) | (with_reducible exact Mem.ev_zero _ _ _) | (with_reducible (apply Eq.trans (Mem.ev_tmp _ _ _)); simp only [List.getD_cons_succ, List.getD_cons_zero] <;> rfl)) (by first | (with_reducible exact Mem.ev_const _ _) | (with_reducible exact Mem.ev_zero _ _ _) | (with_reducible (apply Eq.trans (Mem.ev_tmp _ _ _)); simp only [List.getD_cons_succ, List.getD_cons_zero] <;> rfl)) ?_))
          (simp only [Act.put, List.setIfInBounds_toArray, List.set_cons_zero, List.set_cons_succ])
          refine plan_nil ?_
          go_wp2_with fail
          go_meet
          exact ⟨_, rfl, by rw [HL4.out]; simpa [List.append_assoc] using O10.out, Bw10a.out⟩
      · refine plan_slice 27 5 1 _ #[.int .u8 (B8 (BitVec.ofNat 8 a.hp.toNat))] (by rfl) (by rfl) (by rfl) Try.underlying27 (by kernel_rfl) (B0.out.alloc B0.out.size _) ?_
        (simp only [Act.put, List.setIfInBounds_toArray, List.set_cons_zero, List.set_cons_succ])
        have b9 : Below w1.heap.size w1 (w3.drew.alloc (.cells #[.int .u8 (B8 (BitVec.ofNat 8 a.hp.toNat))] 5)) := B0.out.alloc B0.out.size _
        have k9 : Below w3.drew.heap.size w3.drew (w3.drew.alloc (.cells #[.int .u8 (B8 (BitVec.ofNat 8 a.hp.toNat))] 5)) := (Below.refl _ _).alloc (Nat.le_refl _) _
        have o9 := own_lit8 (w := w3.drew) (B := w1.heap.size) (BitVec.ofNat 8 a.hp.toNat) B0.out.size
        generalize hg9 : w3.drew.heap.size = g9 at *
        generalize w3.drew.alloc (.cells #[.int .u8 (B8 (BitVec.ofNat 8 a.hp.toNat))] 5) = w9l at *
        have N9 : ∀ k, (v4 : Value).ownBlock = some k → k ≠ g9 := fun k hk => by have h := (OZ.out.lt k hk).2; omega
        rw [← hg9] at k9
        clear hg9
        replace OZ := Lib.hid (OZ.out.below k9)
        have Bw9l := Lib.hid b9; have O9 := Lib.hid o9
        clear b9 k9 o9
        refine plan_call 25 _ _ _ (by kernel_rfl) (by rfl) (by rfl) (by rfl) (by first | exact Mem.ev_none _ | (simp only [List.map_toArray, List.map_cons, List.map_nil, Mem.ev_tmp, List.getD_cons_succ, List.getD_cons_zero] <;> rfl)) ?_
        refine (rlow_any a.epoch 4 _ (by omega) (by decide)).mono ?_
        rintro o w4c ⟨v4, rfl, ho4, hb4⟩
        obtain ⟨a4, c4, rfl⟩ := own_hd7 ho4 (show 4 = _ by rw [nbytes_length])
        replace OZ := Lib.hid (OZ.out.below hb4)
        replace O9 := Lib.hid (O9.out.below hb4)
        have Bw4c : Hid (Below w1.heap.size w1 w4c) := Bw9l.out.trans (hb4.mono Bw9l.out.size)
        have O4 := Lib.hid (own_low ho4 Bw9l.out.size)
        clear ho4 hb4
        refine ⟨_, rfl, Bw4c.out, ?_⟩
        (simp only [Act.put, List.setIfInBounds_toArray, List.set_cons_zero, List.set_cons_succ])
        refine plan_app_b _ _ (by rfl) (by rfl) (by rfl) w1.heap.size v4 (.slice a4 4 c4) (L3) (nbytes a.epoch 4) (by first | (with_reducible exact Mem.ev_const _ _) | (with_reducible exact Mem.ev_zero _ _ _) | (with_reducible (apply Eq.trans (Mem.ev_tmp _ _ _)); simp only [List.getD_cons_succ, List.getD_cons_zero] <;> rfl)) OZ.out (by first | (with_reducible exact Mem.ev_const _ _) | (with_reducible exact Mem.ev_zero _ _ _) | (with_reducible (apply Eq.trans (Mem.ev_tmp _ _ _)); simp only [List.getD_cons_succ, List.getD_cons_zero] <;> rfl)) O4.out.sl (by have _h1 := HL.out; have _h2 := RL.out; have _h3 := nbytes_length a.pages.toNat 2; have _h4 := nbytes_length a.epoch 4; have _h5 := nbytes_length a.re 4; have _h6 := LN3.out; simp <;> omega) Bw4c.out.size ?_
        intro v5 w5a ho5 hk5 hb5
        have Bw5a : Hid (Below w1.heap.size w1 w5a) := Bw4c.out.trans hb5
        have O5 := Lib.hid ho5
        replace O9 := Lib.hid (O9.out.keep (w' := w5a) (fun k hk' => hk5 k (O9.out.lt k hk').2 (fun e => N9 k e (by simpa [Value.ownBlock] using hk'.symm))))
        clear ho5 hk5 hb5
        refine ⟨Bw5a.out, ?_⟩
        (simp only [Act.put, List.setIfInBounds_toArray, List.set_cons_zero, List.set_cons_succ])
        refine plan_app_b _ _ (by rfl) (by rfl) (by rfl) w1.heap.size v5 (.slice (some ⟨g9, 0, none⟩) 1 1) (L3 ++ (nbytes a.epoch 4)) ([BitVec.ofNat 8 a.hp.toNat]) (by first | (with_reducible exact Mem.ev_const _ _) | (with_reducible exact Mem.ev_zero _ _ _) | (with_reducible (apply Eq.trans (Mem.ev_tmp _ _ _)); simp only [List.getD_cons_succ, List.getD_cons_zero] <;> rfl)) O5.out (by first | (with_reducible exact Mem.ev_const _ _) | (with_reducible exact Mem.ev_zero _ _ _) | (with_reducible (apply Eq.trans (Mem.ev_tmp _ _ _)); simp only [List.getD_cons_succ, List.getD_cons_zero] <;> rfl)) O9.out.sl (by have _h1 := HL.out; have _h2 := RL.out; have _h3 := nbytes_length a.pages.toNat 2; have _h4 := nbytes_length a.epoch 4; have _h5 := nbytes_length a.re 4; have _h6 := LN3.out; simp <;> omega) Bw5a.out.size ?_
        intro v10 w10a ho10 hk10 hb10
        have Bw10a : Hid (Below w1.heap.size w1 w10a) := Bw5a.out.trans hb10
        have O10 := Lib.hid ho10
        clear ho10 hk10 hb10
        refine ⟨Bw10a.out, ?_⟩
        (simp only [Act.put, List.setIfInBounds_toArray, List.set_cons_zero, List.set_cons_succ])
        (first | (refine plan_move _ _ (by rfl) (by rfl) (.inl (by rfl)) (by first | (with_reducible exact Mem.ev_const _ _) | (with_reducible exact Mem.ev_zero _ _ _) | (with_reducible (apply Eq.trans (Mem.ev_tmp _ _ _)); simp only [List.getD_cons_succ, List.getD_cons_zero] <;> rfl)) ?_) | (refine plan_move _ _ (by rfl) (by rfl) (.inr (by rfl)) (by first | (with_reducible exact Mem.ev_const _ _) | (with_reducible exact Mem.ev_zero _ _ _) | (with_reducible (apply Eq.trans (Mem.ev_tmp _ _ _)); simp only [List.getD_cons_succ, List.getD_cons_zero] <;> rfl)) ?_) | (refine plan_pick_t _ _ _ _ (by rfl) (by rfl) (by rfl) (by first | (with_reducible exact Mem.ev_const _ _) | (with_reducible exact Mem.ev_zero _ _ _) | (with_reducible (apply Eq.trans (Mem.ev_tmp _ _ _)); simp only [List.getD_cons_succ, List.getD_cons_zero] <;> rfl)) (by first | (with_reducible exact Mem.ev_const _ _) | (with_reducible exact Mem.ev_zero _ _ _) | (with_reducible (apply Eq.trans (Mem.ev_tmp _ _ _)); simp only [List.getD_cons_succ, List.getD_cons_zero] <;> rfl)) ?_) | (refine plan_pick_f _ _ _ _ (by rfl) (by rfl) (by rfl) (by first | (with_reducible exact Mem.ev_const _ _) | (with_reducible exact Mem.ev_zero _ _ _) | (with_reducible (apply Eq.trans (Mem.ev_tmp _ _ _)); simp only [List.getD_cons_succ, List.getD_cons_zero] <;> rfl)) (by first | (with_reducible exact Mem.ev_const _ _) | (with_reducible exact Mem.ev_zero _ _ _) | (with_reducible (apply Eq.trans (Mem.ev_tmp _ _ _)); simp only [List.getD_cons_succ, List.getD_cons_zero] <;> rfl)) ?_))
        (simp only [Act.put, List.setIfInBounds_toArray, List.set_cons_zero, List.set_cons_succ])
        refine plan_nil ?_
        go_wp2_with fail
        go_meet
        exact ⟨_, rfl, by rw [HL4.out]; simpa [List.append_assoc] using O10.out, Bw10a.out⟩
    case rest =>
      clear OZ B0
      obtain ⟨v5, rfl, ho, hb⟩ := hcut
      have OZ : Hid (OwnB wc.drew w1.heap.size v5 L4) := ho.below (Below.refl _ _).drew
      have B0 : Hid (Below w1.heap.size w1 wc.drew) := hb.drew
      clear ho hb
      generalize wc = w4 at *
      go_wp2_with fail
      go_cut [4] (fun x wx => ∃ v, v = x ∧ OwnB wx w1.heap.size v L5 ∧ Below w1.heap.size w1 wx)
      case first =>
        refine wp_region_plan_in (fun x => Below w1.heap.size w1 x) (.take 0 (.take 1 (.take 2 (.take 4 (.take 5 (.take 6 (.two 3 7 (.sole 7 (.sole 8 (.take 9 .done))) (.sole 3 (.sole 8 (.take 9 .done)))))))))) (by kernel_rfl) (by kernel_rfl) (by kernel_rfl) B0.out ?_
        (first | (refine plan_move _ _ (by rfl) (by rfl) (.inl (by rfl)) (by first | (with_reducible exact Mem.ev_const _ _) | (with_reducible exact Mem.ev_zero _ _ _) | (with_reducible (apply Eq.trans (Mem.ev_tmp _ _ _)); simp only [List.getD_cons_succ, List.getD_cons_zero] <;> rfl)) ?_) | (refine plan_move _ _ (by rfl) (by rfl) (.inr (by rfl)) (by first | (with_reducible exact Mem.ev_const _ _) | (with_reducible exact Mem.ev_zero _ _ _) | (with_reducible (apply Eq.trans (Mem.ev_tmp _ _ _)); simp only [List.getD_cons_succ, List.getD_cons_zero] <;> rfl)) ?_) | (refine plan_pick_t _ _ _ _ (by rfl) (by rfl) (by rfl) (by first | (with_reducible exact Mem.ev_const _ _) | (with_reducible exact Mem.ev_zero _ _ _) | (with_reducible (apply Eq.trans (Mem.ev_tmp _ _ _)); simp only [List.getD_cons_succ, List.getD_cons_zero] <;> rfl)) (by first | (with_reducible exact Mem.ev_const _ _) | (with_reducible exact Mem.ev_zero _ _ _) | (with_reducible (apply Eq.trans (Mem.ev_tmp _ _ _)); simp only [List.getD_cons_succ, List.getD_cons_zero] <;> rfl)) ?_) | (refine plan_pick_f _ _ _ _ (by rfl) (by rfl) (by rfl) (by first | (with_reducible exact Mem.ev_const _ _) | (with_reducible exact Mem.ev_zero _ _ _) | (with_reducible (apply Eq.trans (Mem.ev_tmp _ _ _)); simp only [List.getD_cons_succ, List.getD_cons_zero] <;> rfl)) (by first | (with_reducible exact Mem.ev_const _ _) | (with_reducible exact Mem.ev_zero _ _ _) | (with_reducible (apply Eq.trans (Mem.ev_tmp _ _ _)); simp only [List.getD_cons_succ, List.getD_cons_zero] <;> rfl)) ?_))
        (simp only [Act.put, List.setIfInBounds_toArray, List.set_cons_zero, List.set_cons_succ])
        refine plan_field 26 _ 4 w.heap.size 0 ⟨w.heap.size, 4, none⟩ (by rfl) (by rfl) (by rfl) (by first | (with_reducible exact Mem.ev_const _ _) | (with_reducible exact Mem.ev_zero _ _ _) | (with_reducible (apply Eq.trans (Mem.ev_tmp _ _ _)); simp only [List.getD_cons_succ, List.getD_cons_zero] <;> rfl)) (fun wx => by go_simp) ?_
        (simp only [Act.put, List.setIfInBounds_toArray, List.set_cons_zero, List.set_cons_succ])
        refine plan_cut 23 _ 32 5 w.heap.size 4 (by rfl) (by rfl) (by rfl) (by first | (with_reducible exact Mem.ev_const _ _) | (with_reducible exact Mem.ev_zero _ _ _) | (with_reducible (apply Eq.trans (Mem.ev_tmp _ _ _)); simp only [List.getD_cons_succ, List.getD_cons_zero] <;> rfl)) Try.underlying23 infoB ?_
        (simp only [Act.put, List.setIfInBounds_toArray, List.set_cons_zero, List.set_cons_succ])
        refine plan_field 26 _ 5 w.heap.size 0 ⟨w.heap.size, 36, none⟩ (by rfl) (by rfl) (by rfl) (by first | (with_reducible exact Mem.ev_const _ _) | (with_reducible exact Mem.ev_zero _ _ _) | (with_reducible (apply Eq.trans (Mem.ev_tmp _ _ _)); simp only [List.getD_cons_succ, List.getD_cons_zero] <;> rfl)) (fun wx => by go_simp) ?_
        (simp only [Act.put, List.setIfInBounds_toArray, List.set_cons_zero, List.set_cons_succ])
        refine plan_cell 3 _ _ (.int .i64 a.rp) _ (by rfl) (by rfl) (by rfl) (by first | (with_reducible exact Mem.ev_const _ _) | (with_reducible exact Mem.ev_zero _ _ _) | (with_reducible (apply Eq.trans (Mem.ev_tmp _ _ _)); simp only [List.getD_cons_succ, List.getD_cons_zero] <;> rfl)) (fun w' hw' => ((AX.out.below hw' AX.out.lt).cell 36).trans (anc36 WF.out)) Try.underlying3 (by rfl) ?_
        (simp only [Act.put, List.setIfInBounds_toArray, List.set_cons_zero, List.set_cons_succ])
        refine plan_conv _ _ _ _ (.int .u8 (B8 (BitVec.ofNat 8 a.rp.toNat))) (by rfl) (by rfl) (by rfl) (by first | (with_reducible exact Mem.ev_const _ _) | (with_reducible exact Mem.ev_zero _ _ _) | (with_reducible (apply Eq.trans (Mem.ev_tmp _ _ _)); simp only [List.getD_cons_succ, List.getD_cons_zero] <;> rfl)) (fun wx => conv_ib a.rp (by omega) (by omega) wx) ?_
        (simp only [Act.put, List.setIfInBounds_toArray, List.set_cons_zero, List.set_cons_succ])
        refine plan_two ?_ ?_
        · refine plan_app_b _ _ (by rfl) (by rfl) (by rfl) w1.heap.size v5 (.slice (some ⟨w.heap.size, 4, none⟩) 32 32) (L4) (a.head) (by first | (with_reducible exact Mem.ev_const _ _) | (with_reducible exact Mem.ev_zero _ _ _) | (with_reducible (apply Eq.trans (Mem.ev_tmp _ _ _)); simp only [List.getD_cons_succ, List.getD_cons_zero] <;> rfl)) OZ.out (by first | (with_reducible exact Mem.ev_const _ _) | (with_reducible exact Mem.ev_zero _ _ _) | (with_reducible (apply Eq.trans (Mem.ev_tmp _ _ _)); simp only [List.getD_cons_succ, List.getD_cons_zero] <;> rfl)) (sl_head (AX.out.below B0.out AX.out.lt) WF.out) (by have _h1 := HL.out; have _h2 := RL.out; have _h3 := nbytes_length a.pages.toNat 2; have _h4 := nbytes_length a.epoch 4; have _h5 := nbytes_length a.re 4; have _h6 := LN4.out; simp <;> omega) B0.out.size ?_
          intro v3 w3a ho3 hk3 hb3
          have Bw3a : Hid (Below w1.heap.size w1 w3a) := B0.out.trans hb3
          have O3 := Lib.hid ho3
          clear ho3 hk3 hb3
          refine ⟨Bw3a.out, ?_⟩
          (simp only [Act.put, List.setIfInBounds_toArray, List.set_cons_zero, List.set_cons_succ])
          refine plan_slice 27 5 1 _ #[.int .u8 (B8 (BitVec.ofNat 8 a.rp.toNat))] (by rfl) (by rfl) (by rfl) Try.underlying27 (by kernel_rfl) (Bw3a.out.alloc Bw3a.out.size _) ?_
          (simp only [Act.put, List.setIfInBounds_toArray, List.set_cons_zero, List.set_cons_succ])
          have b7 : Below w1.heap.size w1 (w3a.alloc (.cells #[.int .u8 (B8 (BitVec.ofNat 8 a.rp.toNat))] 5)) := Bw3a.out.alloc Bw3a.out.size _
          have k7 : Below w3a.heap.size w3a (w3a.alloc (.cells #[.int .u8 (B8 (BitVec.ofNat 8 a.rp.toNat))] 5)) := (Below.refl _ _).alloc (Nat.le_refl _) _
          have o7 := own_lit8 (w := w3a) (B := w1.heap.size) (BitVec.ofNat 8 a.rp.toNat) Bw3a.out.size
          generalize hg7 : w3a.heap.size = g7 at *
          generalize w3a.alloc (.cells #[.int .u8 (B8 (BitVec.ofNat 8 a.rp.toNat))] 5) = w7l at *
          have N7 : ∀ k, (v3 : Value).ownBlock = some k → k ≠ g7 := fun k hk => by have h := (O3.out.lt k hk).2; omega
          rw [← hg7] at k7
          clear hg7
          replace O3 := Lib.hid (O3.out.below k7)
          have Bw7l := Lib.hid b7; have O7 := Lib.hid o7
          clear b7 k7 o7
          refine plan_app_b _ _ (by rfl) (by rfl) (by rfl) w1.heap.size v3 (.slice (some ⟨g7, 0, none⟩) 1 1) (L4 ++ (a.head)) ([BitVec.ofNat 8 a.rp.toNat]) (by first | (with_reducible exact Mem.ev_const _ _) | (with_reducible exact Mem.ev_zero _ _ _) | (with_reducible (apply Eq.trans (Mem.ev_tmp _ _ _)); simp only [List.getD_cons_succ, List.getD_cons_zero] <;> rfl)) O3.out (by first | (with_reducible exact Mem.ev_const _ _) | (with_reducible exact Mem.ev_zero _ _ _) | (with_reducible (apply Eq.trans (Mem.ev_tmp _ _ _)); simp only [List.getD_cons_succ, List.getD_cons_zero] <;> rfl)) O7.out.sl (by have _h1 := HL.out; have _h2 := RL.out; have _h3 := nbytes_length a.pages.toNat 2; have _h4 := nbytes_length a.epoch 4; have _h5 := nbytes_length a.re 4; have _h6 := LN4.out; simp <;> omega) Bw7l.out.size ?_
          intro v8 w8a ho8 hk8 hb8
          have Bw8a : Hid (Below w1.heap.size w1 w8a) := Bw7l.out.trans hb8
          have O8 := Lib.hid ho8
          clear ho8 hk8 hb8
          refine ⟨Bw8a.out, ?_⟩
          (simp only [Act.put, List.setIfInBounds_toArray, List.set_cons_zero, List.set_cons_succ])
          (first | (refine plan_move _ _ (by rfl) (by rfl) (.inl (by rfl)) (by first | (with_reducible exact Mem.ev_const _ _) | (with_reducible exact Mem.ev_zero _ _ _) | (with_reducible (apply Eq.trans (Mem.ev_tmp _ _ _)); simp only [List.getD_cons_succ, List.getD_cons_zero] <;> rfl)) ?_) | (refine plan_move _ _ (by rfl) (by rfl) (.inr (by rfl)) (by first | (with_reducible exact Mem.ev_const _ _) | (with_reducible exact Mem.ev_zero _ _ _) | (with_reducible (apply Eq.trans (Mem.ev_tmp _ _ _)); simp only [List.getD_cons_succ, List.getD_cons_zero] <;> rfl)) ?_) | (refine plan_pick_t _ _ _ _ (by rfl) (by rfl) (by rfl) (by first | (with_reducible exact Mem.ev_const _ _) | (with_reducible exact Mem.ev_zero _ _ _) | (with_reducible (apply Eq.trans (Mem.ev_tmp _ _ _)); simp only [List.getD_cons_succ, List.getD_cons_zero] <;> rfl)) (by first | (with_reducible exact Mem.ev_const _ _) | (with_reducible exact Mem.ev_zero _ _ _) | (with_reducible (apply Eq.trans (Mem.ev_tmp _ _ _)); simp only [List.getD_cons_succ, List.getD_cons_zero] <;> rfl)) ?_) | (refine plan_pick_f _ _ _ _ (by rfl) (by rfl) (by rfl) (by first | (with_reducible exact Mem.ev_const _ _) | (with_reducible exact Mem.ev_zero _ _ _) | (with_reducible (apply Eq.trans (Mem.ev_tmp _ _ _)); simp only [List.getD_cons_succ, List.getD_cons_zero] <;> rfl)) (by first | (with_reducible exact Mem.ev_const _ _) | (with_reducible exact Mem.ev_zero _ _ _) | (with_reducible (apply Eq.trans (Mem.ev_tmp _ _ _)); simp only [List.getD_cons_succ, List.getD_cons_zero] <;> rfl)) ?_))
          (simp only [Act.put, List.setIfInBounds_toArray, List.set_cons_zero, List.set_cons_succ])
          refine plan_nil ?_
          go_wp2_with fail
          go_meet
          exact ⟨_, rfl, by rw [HL5.out]; simpa [List.append_assoc] using O8.out, Bw8a.out⟩
        · refine plan_slice 27 5 1 _ #[.int .u8 (B8 (BitVec.ofNat 8 a.rp.toNat))] (by rfl) (by rfl) (by rfl) Try.underlying27 (by kernel_rfl) (B0.out.alloc B0.out.size _) ?_
          (simp only [Act.put, List.setIfInBounds_toArray, List.set_cons_zero, List.set_cons_succ])
          have b7 : Below w1.heap.size w1 (w4.drew.alloc (.cells #[.int .u8 (B8 (BitVec.ofNat 8 a.rp.toNat))] 5)) := B0.out.alloc B0.out.size _
          have k7 : Below w4.drew.heap.size w4.drew (w4.drew.alloc (.cells #[.int .u8 (B8 (BitVec.ofNat 8 a.rp.toNat))] 5)) := (Below.refl _ _).alloc (Nat.le_refl _) _
          have o7 := own_lit8 (w := w4.drew) (B := w1.heap.size) (BitVec.ofNat 8 a.rp.toNat) B0.out.size
          generalize hg7 : w4.drew.heap.size = g7 at *
          generalize w4.drew.alloc (.cells #[.int .u8 (B8 (BitVec.ofNat 8 a.rp.toNat))] 5) = w7l at *
          have N7 : ∀ k, (v5 : Value).ownBlock = some k → k ≠ g7 := fun k hk => by have h := (OZ.out.lt k hk).2; omega
          rw [← hg7] at k7
          clear hg7
          replace OZ := Lib.hid (OZ.out.below k7)
          have Bw7l := Lib.hid b7; have O7 := Lib.hid o7
          clear b7 k7 o7
          refine plan_app_b _ _ (by rfl) (by rfl) (by rfl) w1.heap.size v5 (.slice (some ⟨w.heap.size, 4, none⟩) 32 32) (L4) (a.head) (by first | (with_reducible exact Mem.ev_const _ _) | (with_reducible exact Mem.ev_zero _ _ _) | (with_reducible (apply Eq.trans (Mem.ev_tmp _ _ _)); simp only [List.getD_cons_succ, List.getD_cons_zero] <;> rfl)) OZ.out (by first | (with_reducible exact Mem.ev_const _ _) | (with_reducible exact Mem.ev_zero _ _ _) | (with_reducible (apply Eq.trans (Mem.ev_tmp _ _ _)); simp only [List.getD_cons_succ, List.getD_cons_zero] <;> rfl)) (sl_head (AX.out.below Bw7l.out AX.out.lt) WF.out) (by have _h1 := HL.out; have _h2 := RL.out; have _h3 := nbytes_length a.pages.toNat 2; have _h4 := nbytes_length a.epoch 4; have _h5 := nbytes_length a.re 4; have _h6 := LN4.out; simp <;> omega) Bw7l.out.size ?_
          intro v3 w3a ho3 hk3 hb3
          have Bw3a : Hid (Below w1.heap.size w1 w3a) := Bw7l.out.trans hb3
          have O3 := Lib.hid ho3
          replace O7 := Lib.hid (O7.out.keep (w' := w3a) (fun k hk' => hk3 k (O7.out.lt k hk').2 (fun e => N7 k e (by simpa [Value.ownBlock] using hk'.symm))))
          clear ho3 hk3 hb3
          refine ⟨Bw3a.out, ?_⟩
          (simp only [Act.put, List.setIfInBounds_toArray, List.set_cons_zero, List.set_cons_succ])
          refine plan_app_b _ _ (by rfl) (by rfl) (by rfl) w1.heap.size v3 (.slice (some ⟨g7, 0, none⟩) 1 1) (L4 ++ (a.head)) ([BitVec.ofNat 8 a.rp.toNat]) (by first | (with_reducible exact Mem.ev_const _ _) | (with_reducible exact Mem.ev_zero _ _ _) | (with_reducible (apply Eq.trans (Mem.ev_tmp _ _ _)); simp only [List.getD_cons_succ, List.getD_cons_zero] <;> rfl)) O3.out (by first | (with_reducible exact Mem.ev_const _ _) | (with_reducible exact Mem.ev_zero _ _ _) | (with_reducible (apply Eq.trans (Mem.ev_tmp _ _ _)); simp only [List.getD_cons_succ, List.getD_cons_zero] <;> rfl)) O7.out.sl (by have _h1 := HL.out; have _h2 := RL.out; have _h3 := nbytes_length a.pages.toNat 2; have _h4 := nbytes_length a.epoch 4; have _h5 := nbytes_length a.re 4; have _h6 := LN4.out; simp <;> omega) Bw3a.out.size ?_
          intro v8 w8a ho8 hk8 hb8
          have Bw8a : Hid (Below w1.heap.size w1 w8a) := Bw3a.out.trans hb8
          have O8 := Lib.hid ho8
          clear ho8 hk8 hb8
          refine ⟨Bw8a.out, ?_⟩
          (simp only [Act.put, List.setIfInBounds_toArray, List.set_cons_zero, List.set_cons_succ])
          (first | (refine plan_move _ _ (by rfl) (by rfl) (.inl (by rfl)) (by first | (with_reducible exact Mem.ev_const _ _) | (with_reducible exact Mem.ev_zero _ _ _) | (with_reducible (apply Eq.trans (Mem.ev_tmp _ _ _)); simp only [List.getD_cons_succ, List.getD_cons_zero] <;> rfl)) ?_) | (refine plan_move _ _ (by rfl) (by rfl) (.inr (by rfl)) (by first | (with_reducible exact Mem.ev_const _ _) | (with_reducible exact Mem.ev_zero _ _ _) | (with_reducible (apply Eq.trans (Mem.ev_tmp _ _ _)); simp only [List.getD_cons_succ, List.getD_cons_zero] <;> rfl)) ?_) | (refine plan_pick_t _ _ _ _ (by rfl) (by rfl) (by rfl) (by first | (with_reducible exact Mem.ev_const _ _) | (with_reducible exact Mem.ev_zero _ _ _) | (with_reducible (apply Eq.trans (Mem.ev_tmp _ _ _)); simp only [List.getD_cons_succ, List.getD_cons_zero] <;> rfl)) (by first | (with_reducible exact Mem.ev_const _ _) | (with_reducible exact Mem.ev_zero _ _ _) | (with_reducible (apply Eq.trans (Mem.ev_tmp _ _ _)); simp only [List.getD_cons_succ, List.getD_cons_zero] <;> rfl)) ?_) | (refine plan_pick_f _ _ _ _ (by rfl) (by rfl) (by rfl) (by first | (with_reducible exact Mem.ev_const _ _) | (with_reducible exact Mem.ev_zero _ _ _) | (with_reducible (apply Eq.trans (Mem.ev_tmp _ _ _)); simp only [List.getD_cons_succ, List.getD_cons_zero] <;> rfl)) (by first | (with_reducible exact Mem.ev_const _ _) | (with_reducible exact Mem.ev_zero _ _ _) | (with_reducible (apply Eq.trans (Mem.ev_tmp _ _ _)); simp only [List.getD_cons_succ, List.getD_cons_zero] <;> rfl)) ?_))
          (simp only [Act.put, List.setIfInBounds_toArray, List.set_cons_zero, List.set_cons_succ])
          refine plan_nil ?_
          go_wp2_with fail
          go_meet
          exact ⟨_, rfl, by rw [HL5.out]; simpa [List.append_assoc] using O8.out, Bw8a.out⟩
      case rest =>
        clear OZ B0
        obtain ⟨v6, rfl, ho, hb⟩ := hcut
        have OZ : Hid (OwnB wc.drew w1.heap.size v6 L5) := ho.below (Below.refl _ _).drew
        have B0 : Hid (Below w1.heap.size w1 wc.drew) := hb.drew
        clear ho hb
        generalize wc = w5 at *
        go_wp2_with fail
        go_cut [4] (fun x wx => ∃ v, v = x ∧ OwnB wx w1.heap.size v L6 ∧ Below w1.heap.size w1 wx)
        case first =>
          refine wp_region_plan_in (fun x => Below w1.heap.size w1 x) (.take 0 (.take 1 (.take 2 (.take 3 (.take 6 (.take 7 (.sole 4 (.sole 5 (.sole 8 (.take 9 .done)))))))))) (by kernel_rfl) (by kernel_rfl) (by kernel_rfl) B0.out ?_
          (first | (refine plan_move _ _ (by rfl) (by rfl) (.inl (by rfl)) (by first | (with_reducible exact Mem.ev_const _ _) | (with_reducible exact Mem.ev_zero _ _ _) | (with_reducible (apply Eq.trans (Mem.ev_tmp _ _ _)); simp only [List.getD_cons_succ, List.getD_cons_zero] <;> rfl)) ?_) | (refine plan_move _ _ (by rfl) (by rfl) (.inr (by rfl)) (by first | (with_reducible exact Mem.ev_const _ _) | (with_reducible exact Mem.ev_zero _ _ _) | (with_reducible (apply Eq.trans (Mem.ev_tmp _ _ _)); simp only [List.getD_cons_succ, List.getD_cons_zero] <;> rfl)) ?_) | (refine plan_pick_t _ _ _ _ (by rfl) (by rfl) (by rfl) (by first | (with_reducible exact Mem.ev_const _ _) | (with_reducible exact Mem.ev_zero _ _ _) | (with_reducible (apply Eq.trans (Mem.ev_tmp _ _ _)); simp only [List.getD_cons_succ, List.getD_cons_zero] <;> rfl)) (by first | (with_reducible exact Mem.ev_const _ _) | (with_reducible exact Mem.ev_zero _ _ _) | (with_reducible (apply Eq.trans (Mem.ev_tmp _ _ _)); simp only [List.getD_cons_succ, List.getD_cons_zero] <;> rfl)) ?_) | (refine plan_pick_f _ _ _ _ (by rfl) (by rfl) (by rfl) (by first | (with_reducible exact Mem.ev_const _ _) | (with_reducible exact Mem.ev_zero _ _ _) | (with_reducible (apply Eq.trans (Mem.ev_tmp _ _ _)); simp only [List.getD_cons_succ, List.getD_cons_zero] <;> rfl)) (by first | (with_reducible exact Mem.ev_const _ _) | (with_reducible exact Mem.ev_zero _ _ _) | (with_reducible (apply Eq.trans (Mem.ev_tmp _ _ _)); simp only [List.getD_cons_succ, List.getD_cons_zero] <;> rfl)) ?_))
          (simp only [Act.put, List.setIfInBounds_toArray, List.set_cons_zero, List.set_cons_succ])
          refine plan_field 26 _ 6 w.heap.size 0 ⟨w.heap.size, 37, none⟩ (by rfl) (by rfl) (by rfl) (by first | (with_reducible exact Mem.ev_const _ _) | (with_reducible exact Mem.ev_zero _ _ _) | (with_reducible (apply Eq.trans (Mem.ev_tmp _ _ _)); simp only [List.getD_cons_succ, List.getD_cons_zero] <;> rfl)) (fun wx => by go_simp) ?_
          (simp only [Act.put, List.setIfInBounds_toArray, List.set_cons_zero, List.set_cons_succ])
          refine plan_cell 22 _ _ (.int .u32 (a.re : Int)) _ (by rfl) (by rfl) (by rfl) (by first | (with_reducible exact Mem.ev_const _ _) | (with_reducible exact Mem.ev_zero _ _ _) | (with_reducible (apply Eq.trans (Mem.ev_tmp _ _ _)); simp only [List.getD_cons_succ, List.getD_cons_zero] <;> rfl)) (fun w' hw' => ((AX.out.below hw' AX.out.lt).cell 37).trans (anc37 WF.out)) Try.underlying22 (by rfl) ?_
          (simp only [Act.put, List.setIfInBounds_toArray, List.set_cons_zero, List.set_cons_succ])
          refine plan_conv _ _ _ _ (.int .u64 ((a.re : Nat) : Int)) (by rfl) (by rfl) (by rfl) (by first | (with_reducible exact Mem.ev_const _ _) | (with_reducible exact Mem.ev_zero _ _ _) | (with_reducible (apply Eq.trans (Mem.ev_tmp _ _ _)); simp only [List.getD_cons_succ, List.getD_cons_zero] <;> rfl)) (fun wx => conv_uu a.re (by omega) wx) ?_
          (simp only [Act.put, List.setIfInBounds_toArray, List.set_cons_zero, List.set_cons_succ])
          refine plan_field 26 _ 7 w.heap.size 0 ⟨w.heap.size, 38, none⟩ (by rfl) (by rfl) (by rfl) (by first | (with_reducible exact Mem.ev_const _ _) | (with_reducible exact Mem.ev_zero _ _ _) | (with_reducible (apply Eq.trans (Mem.ev_tmp _ _ _)); simp only [List.getD_cons_succ, List.getD_cons_zero] <;> rfl)) (fun wx => by go_simp) ?_
          (simp only [Act.put, List.setIfInBounds_toArray, List.set_cons_zero, List.set_cons_succ])
          refine plan_cut 23 _ 32 5 w.heap.size 38 (by rfl) (by rfl) (by rfl) (by first | (with_reducible exact Mem.ev_const _ _) | (with_reducible exact Mem.ev_zero _ _ _) | (with_reducible (apply Eq.trans (Mem.ev_tmp _ _ _)); simp only [List.getD_cons_succ, List.getD_cons_zero] <;> rfl)) Try.underlying23 infoB ?_
          (simp only [Act.put, List.setIfInBounds_toArray, List.set_cons_zero, List.set_cons_succ])
          refine plan_call 25 _ _ _ (by kernel_rfl) (by rfl) (by rfl) (by rfl) (by first | exact Mem.ev_none _ | (simp only [List.map_toArray, List.map_cons, List.map_nil, Mem.ev_tmp, List.getD_cons_succ, List.getD_cons_zero] <;> rfl)) ?_
          refine (rlow_any a.re 4 _ (by omega) (by decide)).mono ?_
          rintro o w4c ⟨v4, rfl, ho4, hb4⟩
          obtain ⟨a4, c4, rfl⟩ := own_hd7 ho4 (show 4 = _ by rw [nbytes_length])
          replace OZ := Lib.hid (OZ.out.below hb4)
          have Bw4c : Hid (Below w1.heap.size w1 w4c) := B0.out.trans (hb4.mono B0.out.size)
          have O4 := Lib.hid (own_low ho4 B0.out.size)
          clear ho4 hb4
          refine ⟨_, rfl, Bw4c.out, ?_⟩
          (simp only [Act.put, List.setIfInBounds_toArray, List.set_cons_zero, List.set_cons_succ])
          refine plan_app_b _ _ (by rfl) (by rfl) (by rfl) w1.heap.size v6 (.slice a4 4 c4) (L5) (nbytes a.re 4) (by first | (with_reducible exact Mem.ev_const _ _) | (with_reducible exact Mem.ev_zero _ _ _) | (with_reducible (apply Eq.trans (Mem.ev_tmp _ _ _)); simp only [List.getD_cons_succ, List.getD_cons_zero] <;> rfl)) OZ.out (by first | (with_reducible exact Mem.ev_const _ _) | (with_reducible exact Mem.ev_zero _ _ _) | (with_reducible (apply Eq.trans (Mem.ev_tmp _ _ _)); simp only [List.getD_cons_succ, List.getD_cons_zero] <;> rfl)) O4.out.sl (by have _h1 := HL.out; have _h2 := RL.out; have _h3 := nbytes_length a.pages.toNat 2; have _h4 := nbytes_length a.epoch 4; have _h5 := nbytes_length a.re 4; have _h6 := LN5.out; simp <;> omega) Bw4c.out.size ?_
          intro v5 w5a ho5 hk5 hb5
          have Bw5a : Hid (Below w1.heap.size w1 w5a) := Bw4c.out.trans hb5
          have O5 := Lib.hid ho5
          clear ho5 hk5 hb5
          refine ⟨Bw5a.out, ?_⟩
          (simp only [Act.put, List.setIfInBounds_toArray, List.set_cons_zero, List.set_cons_succ])
          refine plan_app_b _ _ (by rfl) (by rfl) (by rfl) w1.heap.size v5 (.slice (some ⟨w.heap.size, 38, none⟩) 32 32) (L5 ++ (nbytes a.re 4)) (a.root) (by first | (with_reducible exact Mem.ev_const _ _) | (with_reducible exact Mem.ev_zero _ _ _) | (with_reducible (apply Eq.trans (Mem.ev_tmp _ _ _)); simp only [List.getD_cons_succ, List.getD_cons_zero] <;> rfl)) O5.out (by first | (with_reducible exact Mem.ev_const _ _) | (with_reducible exact Mem.ev_zero _ _ _) | (with_reducible (apply Eq.trans (Mem.ev_tmp _ _ _)); simp only [List.getD_cons_succ, List.getD_cons_zero] <;> rfl)) (sl_root (AX.out.below Bw5a.out AX.out.lt) WF.out) (by have _h1 := HL.out; have _h2 := RL.out; have _h3 := nbytes_length a.pages.toNat 2; have _h4 := nbytes_length a.epoch 4; have _h5 := nbytes_length a.re 4; have _h6 := LN5.out; simp <;> omega) Bw5a.out.size ?_
          intro v8 w8a ho8 hk8 hb8
          have Bw8a : Hid (Below w1.heap.size w1 w8a) := Bw5a.out.trans hb8
          have O8 := Lib.hid ho8
          clear ho8 hk8 hb8
          refine ⟨Bw8a.out, ?_⟩
          (simp only [Act.put, List.setIfInBounds_toArray, List.set_cons_zero, List.set_cons_succ])
          (first | (refine plan_move _ _ (by rfl) (by rfl) (.inl (by rfl)) (by first | (with_reducible exact Mem.ev_const _ _) | (with_reducible exact Mem.ev_zero _ _ _) | (with_reducible (apply Eq.trans (Mem.ev_tmp _ _ _)); simp only [List.getD_cons_succ, List.getD_cons_zero] <;> rfl)) ?_) | (refine plan_move _ _ (by rfl) (by rfl) (.inr (by rfl)) (by first | (with_reducible exact Mem.ev_const _ _) | (with_reducible exact Mem.ev_zero _ _ _) | (with_reducible (apply Eq.trans (Mem.ev_tmp _ _ _)); simp only [List.getD_cons_succ, List.getD_cons_zero] <;> rfl)) ?_) | (refine plan_pick_t _ _ _ _ (by rfl) (by rfl) (by rfl) (by first | (with_reducible exact Mem.ev_const _ _) | (with_reducible exact Mem.ev_zero _ _ _) | (with_reducible (apply Eq.trans (Mem.ev_tmp _ _ _)); simp only [List.getD_cons_succ, List.getD_cons_zero] <;> rfl)) (by first | (with_reducible exact Mem.ev_const _ _) | (with_reducible exact Mem.ev_zero _ _ _) | (with_reducible (apply Eq.trans (Mem.ev_tmp _ _ _)); simp only [List.getD_cons_succ, List.getD_cons_zero] <;> rfl)) ?_) | (refine plan_pick_f _ _ _ _ (by rfl) (by rfl) (by rfl) (by first | (with_reducible exact Mem.ev_const _ _) | (with_reducible exact Mem.ev_zero _ _ _) | (with_reducible (apply Eq.trans (Mem.ev_tmp _ _ _)); simp only [List.getD_cons_succ, List.getD_cons_zero] <;> rfl)) (by first | (with_reducible exact Mem.ev_const _ _) | (with_reducible exact Mem.ev_zero _ _ _) | (with_reducible (apply Eq.trans (Mem.ev_tmp _ _ _)); simp only [List.getD_cons_succ, List.getD_cons_zero] <;> rfl)) ?_))
          (simp only [Act.put, List.setIfInBounds_toArray, List.set_cons_zero, List.set_cons_succ])
          refine plan_nil ?_
          go_wp2_with fail
          go_meet
          exact ⟨_, rfl, by rw [HL6.out]; simpa [List.append_assoc] using O8.out, Bw8a.out⟩
        case rest =>
          clear OZ B0
          obtain ⟨v7, rfl, ho, hb⟩ := hcut
          have c70 : wc.cell? ⟨w.heap.size, 70, none⟩ = some (.int .u64 (a.com : Int)) := ((AX.out.below hb AX.out.lt).cell 70).trans (anc70 WF.out)
          have OZ := Lib.hid ho
          have B0 := Lib.hid hb
          clear ho hb
          generalize wc = w6 at *
          go_wp2_with fail
          refine (rlow_any a.com 8 _ hc2 (by decide)).mono ?_
          rintro e w7 ⟨v8, rfl, ho8, hb8⟩
          have O8 := Lib.hid ho8; have O5 := Lib.hid (OZ.out.below hb8); have B8 : Hid (Below w1.heap.size w1 w7) := B0.out.trans (hb8.mono B0.out.size)
          clear ho8 hb8 OZ B0 c70
          go_wp2_with (at_builtin; refine wpList_append_bytes (by rfl) _ _ (by rfl) w1.heap.size v7 v8 L6 (nbytes a.com 8) (by rfl) O5.out (by rfl) O8.out.sl (by rw [LN6.out, nbytes_length]; omega) B8.out.size ?_; intro v9 w9 ho9 _ hb9; have O9 : Hid (OwnB w9 w1.heap.size v9 L7) := (by rw [HL7.out]; exact ho9); have B9 : Hid (Below w1.heap.size w1 w9) := B8.out.trans hb9; clear ho9 hb9)
          clear O5 O8 B8
          go_loopw [4] (fun x wr => ∃ (n : Nat) (a4 : Option Addr) (c4 : Nat), x = .slice a4 n c4 ∧ 85 ≤ n ∧ n ≤ 128 ∧ OwnB wr w1.heap.size (.slice a4 n c4) (L7 ++ List.replicate (n - 85) 0) ∧ Below w1.heap.size w1 wr) (fun x _ => 128 - slen x)
          case atStart =>
            obtain ⟨a9, c9, rfl⟩ := own_hd7 O9.out LN7.out.symm
            exact ⟨85, a9, c9, rfl, by omega, by omega, by simpa using O9.out, B9.out⟩
          case round =>
            clear O9 B9
            obtain ⟨n, a4, c4, rfl, h85, h128, ho, hb⟩ := hrel
            by_cases hlt : n < 128
            · have hlt' : (n : Int) < 128 := by omega
              have hnx : u8s (L7 ++ List.replicate (n + 1 - 85) 0) = u8s (L7 ++ List.replicate (n - 85) 0) ++ [.int .u8 0] := by
                rw [show n + 1 - 85 = (n - 85) + 1 by omega, List.replicate_succ', ← List.append_assoc, u8s_snoc]; rfl
              have hln : (L7 ++ List.replicate (n - 85) (0 : BitVec 8)).length = n := by rw [List.length_append, LN7.out, List.length_replicate]; omega
              have hln2 : (L7 ++ List.replicate (n + 1 - 85) (0 : BitVec 8)).length = n + 1 := by rw [List.length_append, LN7.out, List.length_replicate]; omega
              have OW := Lib.hid (ownB_V ho); have BB := Lib.hid hb; have NX := Lib.hid hnx; have LN := Lib.hid hln; have LQ := Lib.hid hln2
              clear ho hb hnx hln hln2
              go_wp2_with (at_builtin; refine wpList_append_lit (by rfl) _ _ 27 (by rfl) (.int .u8 0) (.int .u8 0) 1 elemB8 (by rfl) (by rfl) OW.out (by rfl) (by rfl) (by rw [u8s_length, LN.out]; omega) (by rw [u8s_length, LN.out]; omega) (BB.out.size) ?_; intro v8 w8 ho8 _ hb8 _; have O8 : Hid (OwnB w8 w1.heap.size v8 (L7 ++ List.replicate (n + 1 - 85) 0)) := (by apply ownV_B; rw [NX.out]; exact ho8); have B8 := Lib.hid (BB.out.trans hb8); clear ho8 hb8)
              obtain ⟨a8, c8, rfl⟩ := own_hd7 O8.out LQ.out.symm
              go_roundw
              case rel => exact ⟨n + 1, a8, c8, rfl, by omega, by omega, O8.out, B8.out⟩
              case measure => simp [slen]; omega
            · have hge : ¬ (n : Int) < 128 := by omega
              have hn : n = 128 := by omega
              subst hn
              have OW := Lib.hid ho; have BB := Lib.hid hb
              clear ho hb hlt h85 h128
              go_wp2_with fail
              go_ret2
              exact ⟨_, rfl, ownsRow_base (by rw [LAY.out]; exact OW.out) HB.out.size, HB.out.trans (BB.out.mono HB.out.size)⟩
set_option maxRecDepth 100000 in
set_option maxHeartbeats 2000000 in
theorem rlay_bad (a : Anc) (h : a.Wf) (hm : mayA a = false) (w : World) : Calls Try.prog 9 #[.agg (ancC a)] w fun e w' => e = .returned (.tuple #[.slice none 0 0, .int .i64 1]) ∧ Below w.heap.size w w' := by
  have hmay := fun wx => rmay_any a h wx
  rw [hm] at hmay
  have hA := at_new w (ancC a) 26
  have hb : Below w.heap.size w (w.alloc (.cells (ancC a) 26)) := (Below.refl _ _).alloc (Nat.le_refl _) _
  obtain ⟨w1, hw1⟩ : ∃ w1, w1 = w.alloc (.cells (ancC a) 26) := ⟨_, rfl⟩
  rw [← hw1] at hA hb
  have MAY := Lib.hid hmay; have AX := Lib.hid hA; have HB := Lib.hid hb
  have AS := Lib.hid (ancC_size h)
  clear hmay hA hb hm h
  go_enter Try.func9, Try.ntmps9
  go_upto_region 1 with fail
  rw [← hw1]
  clear hw1
  go_wp2_with (refine wpList_load_all (by rfl) 26 _ (by rfl) w.heap.size (by rfl) _ Try.underlying26 (by rfl) (ancC a) _ AX.out (by rw [AS.out]; exact infoAncR) ?_)
  refine (MAY.out w1).mono ?_
  rintro e w2 ⟨rfl, hb2⟩
  have B2 : Hid (Below w.heap.size w w2) := HB.out.trans (hb2.mono HB.out.size)
  clear hb2 MAY
  go_wp2_with fail
  go_ret2
  exact ⟨rfl, B2.out⟩
end Sha
end Go.Proofs.Ytknaimpnkflfnaa
