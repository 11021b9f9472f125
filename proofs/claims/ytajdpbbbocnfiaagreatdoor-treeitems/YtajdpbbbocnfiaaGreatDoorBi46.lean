/- The document's tree: Way. Layer 14's law: same. -/
import Derived.Test.YtajdpbbbocnfiaaGreatDoorBi44
import Derived.Test.YtajdpbbbocnfiaaGreatDoorBi10
import Derived.Test.YtajdpbbbocnfiaaGreatDoorBi01
import Derived.Test.YtajdpbbbocnfiaaGreatDoorBi42
namespace Go.Proofs.YtajdpbbbocnfiaaGreatDoor
namespace Sha
open Go.RowKit Mem
set_option maxRecDepth 100000
theorem fetchT_le (B key : List (BitVec 8)) (p : Nat) (z : Int) (r : RefV) : (fetchT B key p z r).1.length ≤ 1000 := by
 unfold fetchT
 split
 ·simp
 ·have hb : (blkOf B (BZ p z r.pl).toNat).length ≤ 256 := by unfold blkOf; rw [List.length_take]; omega
  unfold openR
  split
  ·simp
  ·split
   all_goals first | (show ([] : List (BitVec 8)).length ≤ 1000; simp; done) | (show (sealL _ _ _ _).length ≤ 1000; rw [sealL_length]; omega)
theorem pages_good14 {l : List (List (BitVec 8))} (h0 : l.length ≠ 0) (h1 : l.length ≤ 216) : GoodP (l.map pageL) := by
 refine ⟨by rw [List.length_map]; omega, by rw [List.length_map]; exact h1, fun x hx => ?_⟩
 obtain ⟨y, _, rfl⟩ := List.mem_map.1 hx
 exact pageL_length y
theorem slrf_get14 {w : World} {a : Option Addr} {n c : Nat} {L : List RefV} (h : SlRf w (.slice a n c) L) (hn : n = L.length) (h0 : 0 < n) : ∃ g o, a = some ⟨g, o, none⟩ ∧ g < w.heap.size ∧ ∀ i, i < n → w.rangeAt g (o + i * 34) (refL (L.getD i zref)) := by
 obtain ⟨g, o, ea, hl, _⟩ := slrf_at (i := 0) h hn h0
 subst ea
 exact ⟨g, o, rfl, hl, fun i hi => slrf_cell h hn hi⟩
theorem kidsT_le (p : Nat) (z : Int) (pg : List (BitVec 8)) : (kidsT p z pg).1.length ≤ 1000 := by
 unfold kidsT
 split
 ·simp
 ·unfold parseN
  split
  ·simp
  ·rename_i h1
   split
   ·simp
   ·rename_i h2
    by_cases h : (allN pg).2 = 0
    ·have h3 : ((allN pg).1.length : Int) = ((KZ p z).length : Int) := Decidable.not_not.1 fun g => h2 ⟨h, g⟩
     omega
    ·unfold allN at h ⊢
     split
     ·simp
     ·rename_i h4
      rw [if_neg h4] at h
      split
      ·rename_i h5
       rw [if_pos h5] at h
       exact absurd rfl h
      ·simp
theorem build_K014 (w : World) : (Instr.build 22 #[]).run Tryz.prog w = .ok (.agg (u8s (List.replicate 32 0)).toArray) w := by kernel_rfl
theorem neqRR14 {a b : RefV} (ha : a.Wf) (hb : b.Wf) (x y : Operand) (w : World) : (do eqGuard .neq 36 x y (.agg (refC a)) (.agg (refC b)); binOp .neq 36 (.agg (refC a)) (.agg (refC b)) : Sem Value).run Tryz.prog w = .ok (.bool (!sameRef a b)) w :=
 (eqlRf _ (by kernel_rfl) (by kernel_rfl) (by kernel_rfl) (by kernel_rfl) ha hb x y w).2
def sameRf14 (L K : List RefV) : Bool := decide (L.length = K.length ∧ ∀ i, i < L.length → sameRef (L.getD i zref) (K.getD i zref) = true)
theorem sameRf14_iff (L K : List RefV) : sameRf14 L K = true ↔ L = K := by
 unfold sameRf14
 rw [decide_eq_true_iff]
 constructor
 ·rintro ⟨h, h2⟩
  apply List.ext_getElem h
  intro i h1 h3
  have := (sameRef_iff _ _).1 (h2 i h1)
  simpa [List.getD_eq_getElem?_getD, h1, h3] using this
 ·rintro rfl
  exact ⟨rfl, fun i _ => sameRef_self _⟩
theorem sameRf14_self (L : List RefV) : sameRf14 L L = true := (sameRf14_iff L L).2 rfl
set_option maxHeartbeats 1000000 in
theorem same14_any (L K : List RefV) (va vb : Value) (w : World) (ha : SlRf w va L) (hb : SlRf w vb K) (hL : ∀ r ∈ L, r.Wf) (hK : ∀ r ∈ K, r.Wf) (hl : L.length ≤ 1000) (_hk : K.length ≤ 1000) : Calls Tryz.prog 22 #[va, vb] w (fun e w' => e = .returned (.bool (sameRf14 L K)) ∧ Below w.heap.size w w') := by
 obtain ⟨aa, ca, rfl⟩ := ha.hd
 obtain ⟨ab, cb, rfl⟩ := hb.hd
 by_cases hlen : L.length = K.length
 ·have hno : ∀ i, i < L.length → sameRef (L.getD i zref) (K.getD i zref) = false → sameRf14 L K = false := fun i hi h => by
   unfold sameRf14
   refine decide_eq_false (fun hc => ?_)
   rw [hc.2 i hi] at h
   cases h
  have hyes : (∀ i, i < L.length → sameRef (L.getD i zref) (K.getD i zref) = true) → sameRf14 L K = true := fun h => by
   unfold sameRf14
   exact decide_eq_true ⟨hlen, h⟩
  have hne := fun i => neqRR14 (getD_wf hL i) (getD_wf hK i)
  have hsa := fun i => refC_size (getD_wf hL i)
  have hsb := fun i => refC_size (getD_wf hK i)
  rw [← hlen] at hb ⊢
  obtain ⟨Y, hY⟩ : ∃ Y, Y = sameRf14 L K := ⟨_, rfl⟩
  rw [← hY] at hno hyes ⊢
  obtain ⟨n, hn⟩ : ∃ n, n = L.length := ⟨_, rfl⟩
  have hnk : n = K.length := by omega
  rw [← hn] at ha hb hno hyes hl ⊢
  have HA := zh ha; have HB := zh hb; have NO := zh hno; have YES := zh hyes; have NE := zh hne; have SA := zh hsa; have SB := zh hsb; have HN := zh hn; have HNK := zh hnk
  clear ha hb hno hyes hne hsa hsb hn hnk hY hlen _hk
  go_enter Tryz.func22, Tryz.ntmps22
  go_wp2_with fail
  go_loopw [13] (fun vi wr => ∃ i : Nat, i ≤ n ∧ vi = .int .i64 (i : Int) ∧ (∀ k, k < i → sameRef (L.getD k zref) (K.getD k zref) = true) ∧ Below w.heap.size w wr) (fun vi _ => n - (intOf vi).toNat)
  case atStart => exact ⟨0, by omega, rfl, fun k _hk => by omega, Below.refl _ _⟩
  case round =>
   obtain ⟨i, hi, rfl, hal, hbw⟩ := hrel
   have BW := zh hbw; have AL := zh hal; have VA := zh (HA.out.below hbw); have VB := zh (HB.out.below hbw)
   clear hbw hal
   by_cases hlt : i < n
   ·have hlt2 : (i : Int) < (n : Int) := by omega
    obtain ⟨b1, o1, e1, l1, r1⟩ := slrf_at (i := i) VA.out HN.out hlt
    obtain ⟨b2, o2, e2, l2, r2⟩ := slrf_at (i := i) VB.out HNK.out hlt
    subst e1 e2
    have hne := NE.out i; have hsa := SA.out i; have hsb := SB.out i; have hno := NO.out i hlt
    have hal2 : sameRef (L.getD i zref) (K.getD i zref) = true → ∀ k, k < i + 1 → sameRef (L.getD k zref) (K.getD k zref) = true := fun h k _hk => by
     rcases Nat.lt_or_ge k i with x | x
     ·exact AL.out k x
     ·rw [show k = i by omega]; exact h
    obtain ⟨x, hx⟩ : ∃ x, x = L.getD i zref := ⟨_, rfl⟩
    obtain ⟨y, hy⟩ : ∃ y, y = K.getD i zref := ⟨_, rfl⟩
    rw [← hx, ← hy] at hne hno
    rw [← hx] at hsa r1
    rw [← hy] at hsb r2
    rw [← hx, ← hy] at hal2
    have R1 := zh r1; have R2 := zh r2; have L1 := zh l1; have L2 := zh l2; have SX := zh hsa; have SY := zh hsb; have AL2 := zh hal2; have NX := zh hno
    obtain ⟨q, hq⟩ : ∃ q, q = sameRef x y := ⟨_, rfl⟩
    rw [← hq] at hne
    have NEQ := zh hne; have HQ := zh hq
    clear r1 r2 l1 l2 hsa hsb hne hno hal2 hx hy hq
    go_upto_region 6 with fail
    have D0 : Hid (Below wr.heap.size wr wr.drew) := zh (Below.refl _ _).drew
    refine wp_region_plan_in (fun x' => Below wr.heap.size wr x') (.take 0 (.take 1 (.take 2 (.take 3 (.take 4 (.take 5 (.take 6 (.take 7 (.take 8 .done))))))))) (by kernel_rfl) (by kernel_rfl) (by kernel_rfl) D0.out ?_
    (first | refine Mem.pm1 ?_ | refine Mem.pm2 ?_ | refine Mem.pt ?_ | refine Mem.pf ?_)
    (simp only [Act.put, Mem.pa, Mem.pb, Mem.pc])
    (first | refine Mem.pm1 ?_ | refine Mem.pm2 ?_ | refine Mem.pt ?_ | refine Mem.pf ?_)
    (simp only [Act.put, Mem.pa, Mem.pb, Mem.pc])
    refine plan_index_z 64 31 _ _ b1 o1 n ca 34 i zr zr zr Mem.ev_a Mem.ev_a (by omega) Tryz.underlying64 (by kernel_rfl) ?_
    (simp only [Act.put, Mem.pa, Mem.pb, Mem.pc])
    refine plan_load_range 31 _ b1 (o1 + i * 34) _ (refC x) zr zr zr Mem.ev_a (fun w' hw' => range_block R1.out (hw'.block b1 L1.out)) Tryz.underlying31 zr (by rw [SX.out]; exact infoRfP) ?_
    (simp only [Act.put, Mem.pa, Mem.pb, Mem.pc])
    (first | refine Mem.pm1 ?_ | refine Mem.pm2 ?_ | refine Mem.pt ?_ | refine Mem.pf ?_)
    (simp only [Act.put, Mem.pa, Mem.pb, Mem.pc])
    (first | refine Mem.pm1 ?_ | refine Mem.pm2 ?_ | refine Mem.pt ?_ | refine Mem.pf ?_)
    (simp only [Act.put, Mem.pa, Mem.pb, Mem.pc])
    refine plan_index_z 67 36 _ _ b2 o2 n cb 34 i zr zr zr Mem.ev_a Mem.ev_a (by omega) Tryz.underlying67 (by kernel_rfl) ?_
    (simp only [Act.put, Mem.pa, Mem.pb, Mem.pc])
    refine plan_load_range 36 _ b2 (o2 + i * 34) _ (refC y) zr zr zr Mem.ev_a (fun w' hw' => range_block R2.out (hw'.block b2 L2.out)) Tryz.underlying36 zr (by rw [SY.out]; exact infoRfR) ?_
    (simp only [Act.put, Mem.pa, Mem.pb, Mem.pc])
    refine plan_bin _ _ _ _ _ _ _ (.bool (!q)) zr zr zr Mem.ev_a Mem.ev_a (fun wx => NEQ.out _ _ wx) ?_
    (simp only [Act.put, Mem.pa, Mem.pb, Mem.pc])
    refine plan_nil ?_
    have BD : Hid (Below w.heap.size w wr.drew) := zh BW.out.drew
    cases hqq : q
    ·have hy : Y = false := NX.out (by rw [← HQ.out]; exact hqq)
     have HY := zh hy
     clear hy hqq
     go_wp2_with fail
     go_ret
     exact ⟨by rw [HY.out]; rfl, BD.out⟩
    ·have hal3 := AL2.out (by rw [← HQ.out]; exact hqq)
     have AL3 := zh hal3
     clear hal3 hqq
     go_wp2_with fail
     go_roundw
     case rel => exact ⟨i + 1, by omega, by go_num, AL3.out, BD.out⟩
     case measure => simp [intOf]; omega
   ·have hin : i = n := by omega
    subst hin
    have hy : Y = true := YES.out AL.out
    have HY := zh hy
    clear hy
    go_wp2_with fail
    go_ret
    exact ⟨by rw [HY.out]; rfl, BW.out⟩
 ·have hy : sameRf14 L K = false := by unfold sameRf14; exact decide_eq_false (fun h => hlen h.1)
  rw [hy]
  obtain ⟨n, hn⟩ : ∃ n, n = L.length := ⟨_, rfl⟩
  obtain ⟨m, hm⟩ : ∃ m, m = K.length := ⟨_, rfl⟩
  rw [← hn, ← hm] at hlen ⊢
  have e1 : ((n : Int) == (m : Int)) = false := beq_eq_false_iff_ne.mpr (by omega)
  have e2 : ¬ (n : Int) = (m : Int) := by omega
  clear ha hb hy hn hm hl _hk
  go_enter Tryz.func22, Tryz.ntmps22
  go_wp2_with fail
  go_ret
  exact ⟨rfl, Below.refl _ _⟩
end Sha
end Go.Proofs.YtajdpbbbocnfiaaGreatDoor
