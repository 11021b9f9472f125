/- Over any program: in a plan, addresses in arrays and structs, one cell's store, part of a row's load. | The document's Join: its walk. | The document's block of a stretched key: its walk. The document's stretched key: its walk. -/
import Derived.Test.YtjadjidjfkahpaaDoorBC
import Derived.Test.YtjadjidjfkahpaaDoorBF
namespace Go.Proofs.YtjadjidjfkahpaaDoor
namespace Mem
open Go.RowKit
section
variable {P : Program} {ops : Array Oper} {Q : Exit → Act → World → Prop} {S : World → Prop} {w : World} {a : Act} {o : Oper} {i : Nat} {r : Plan}
end
end Mem
end Go.Proofs.YtjadjidjfkahpaaDoor
namespace Go.Proofs.YtjadjidjfkahpaaDoor
namespace Sha
open Go.RowKit Mem
/-- The first i bytes joined, the others 0. -/
def joinZ (a b : List (BitVec 8)) (i : Nat) : List (BitVec 8) := (joinB a b).take i ++ List.replicate (32 - i) 0
theorem joinZ_length (a b : List (BitVec 8)) (la : a.length = 32) (lb : b.length = 32) (i : Nat) (h : i ≤ 32) : (joinZ a b i).length = 32 := by
  simp [joinZ, joinB, la, lb]; omega
theorem joinZ_set (a b : List (BitVec 8)) (la : a.length = 32) (lb : b.length = 32) (i : Nat) (h : i < 32) : (joinZ a b i).set i (a.getD i 0 ^^^ b.getD i 0) = joinZ a b (i + 1) := by
  have hl := joinB_length a b (by rw [la, lb])
  unfold joinZ
  rw [joinB_next a b (by rw [la, lb]) i (by omega), List.set_append_right _ _ (by rw [List.length_take, hl]; omega), List.length_take, hl, Nat.min_eq_left (by omega), Nat.sub_self, show 32 - i = (32 - (i + 1)) + 1 by omega, List.replicate_succ, List.set_cons_zero, List.append_assoc]
  rfl
theorem joinZ_all (a b : List (BitVec 8)) (la : a.length = 32) (lb : b.length = 32) : joinZ a b 32 = joinB a b := by
  unfold joinZ
  rw [List.take_of_length_le (by rw [joinB_length a b (by rw [la, lb]), la]; omega)]
  simp
structure RJInv (C D : Array Value) (L : List (BitVec 8)) (B : Nat) (X : Array Value) (w wr : World) : Prop where
  c : At wr B C 24
  d : At wr (B + 1) D 24
  r : At wr (B + 1 + 1) X 24
  k : At wr (B + 1 + 1 + 1) (u8s L).toArray 24
  b : Below w.heap.size w wr
set_option maxRecDepth 100000 in
set_option maxHeartbeats 1000000 in
theorem rjoin_any (a b : List (BitVec 8)) (la : a.length = 32) (lb : b.length = 32) (w : World) :
    Calls Tryd.prog 56 #[.agg (u8s a).toArray, .agg (u8s b).toArray] w fun e w' => e = .returned (.agg (jnOf a b)) ∧ Below w.heap.size w w' := by
  obtain ⟨X, hX⟩ : ∃ X, X = Z32 := ⟨_, rfl⟩
  have hx := zero32
  rw [← hX] at hx
  have hXs : X.size = 32 := by rw [hX]; simp [Z32, u8s]
  obtain ⟨C, hC⟩ : ∃ C, C = (u8s a).toArray := ⟨_, rfl⟩
  obtain ⟨D, hD⟩ : ∃ D, D = (u8s b).toArray := ⟨_, rfl⟩
  rw [← hC, ← hD]
  have hI : RJInv C D (joinZ a b 0) w.heap.size X w ((((w.alloc (.cells C 24)).alloc (.cells D 24)).alloc (.cells X 24)).alloc (.cells X 24)) := by
    refine ⟨(((at_new w C _).alloc _).alloc _).alloc _, ?_, ?_, ?_, ((((Below.refl _ _).alloc (Nat.le_refl _) _).alloc (by simp) _).alloc (by simp; omega) _).alloc (by simp; omega) _⟩
    · have h := ((at_new (w.alloc (.cells C 24)) D 24).alloc (.cells X 24)).alloc (.cells X 24)
      simpa using h
    · have h := (at_new ((w.alloc (.cells C 24)).alloc (.cells D 24)) X 24).alloc (.cells X 24)
      simpa using h
    · have h := at_new (((w.alloc (.cells C 24)).alloc (.cells D 24)).alloc (.cells X 24)) X 24
      have e : (u8s (joinZ a b 0)).toArray = X := by rw [hX]; simp [joinZ, Z32]
      rw [e]
      simpa using h
  have HI := Lib.hid hI; have HC := Lib.hid hC; have HD := Lib.hid hD; have XS := Lib.hid hXs; have LA := Lib.hid la; have LB := Lib.hid lb
  clear hI hC hD hX hXs la lb
  go_enter Tryd.func56, Tryd.ntmps56
  go_wp2_with fail
  generalize (((w.alloc (.cells C 24)).alloc (.cells D 24)).alloc (.cells X 24)).alloc (.cells X 24) = w4 at *
  go_loopw [6] (fun i wr => ∃ j : Nat, j ≤ 32 ∧ i = .int .i64 j ∧ RJInv C D (joinZ a b j) w.heap.size X w wr) (fun i _ => 32 - (intOf i).toNat)
  case atStart => exact ⟨0, by omega, rfl, HI.out⟩
  case round =>
    clear HI
    obtain ⟨j, hj, rfl, hI⟩ := hrel
    by_cases hlt : j < 32
    · have hja : j < a.length := by rw [LA.out]; exact hlt
      have hjb : j < b.length := by rw [LB.out]; exact hlt
      obtain ⟨x, hxx⟩ : ∃ x, x = a.getD j 0 := ⟨_, rfl⟩
      obtain ⟨y, hyy⟩ : ∃ y, y = b.getD j 0 := ⟨_, rfl⟩
      have hset : (u8s (joinZ a b j)).toArray.setIfInBounds j (.int .u8 (B8 (x ^^^ y))) = (u8s (joinZ a b (j + 1))).toArray := by
        rw [← joinZ_set a b LA.out LB.out j hlt, ← hxx, ← hyy]; exact u8s_set _ _ _
      have cj : wr.cell? ⟨w.heap.size, j, none⟩ = some (.int .u8 (B8 x)) := by
        rw [hI.c.cell, HC.out, List.getElem?_toArray, u8s_get _ _ hja, hxx]; rfl
      have dj : wr.cell? ⟨w.heap.size + 1, j, none⟩ = some (.int .u8 (B8 y)) := by
        rw [hI.d.cell, HD.out, List.getElem?_toArray, u8s_get _ _ hjb, hyy]; rfl
      have hEs : j < (u8s (joinZ a b j)).toArray.size := by simp [u8s, joinZ_length a b LA.out LB.out j hj]; exact hlt
      obtain ⟨E, hE⟩ : ∃ E, E = (u8s (joinZ a b j)).toArray := ⟨_, rfl⟩
      have hk := hI.k
      rw [← hE] at hk hset hEs
      have KK := Lib.hid hk; have ST := Lib.hid hset; have ES := Lib.hid hEs; have II := Lib.hid hI; have CJ := Lib.hid cj; have DJ := Lib.hid dj
      have hlt' : (j : Int) < 32 := by omega
      clear hk hset hEs hI hE hxx hyy hja hjb cj dj
      go_wp2_with fail
      refine wp_region_plan_in (fun w' => w'.cell? ⟨w.heap.size, j, none⟩ = some (.int .u8 (B8 x)) ∧ w'.cell? ⟨w.heap.size + 1, j, none⟩ = some (.int .u8 (B8 y))) (.take 0 (.take 1 (.take 2 (.take 3 (.take 4 (.take 5 (.take 6 (.take 7 (.take 8 (.sole 9 .done)))))))))) (by kernel_rfl) (by kernel_rfl) (by kernel_rfl) ⟨CJ.out, DJ.out⟩ ?_
      (first | (refine plan_move _ _ (by rfl) (by rfl) (.inl (by rfl)) (by first | (with_reducible exact Mem.ev_const _ _) | (with_reducible exact Mem.ev_zero _ _ _) | (with_reducible (apply Eq.trans (Mem.ev_tmp _ _ _)); simp only [List.getD_cons_succ, List.getD_cons_zero] <;> rfl)) ?_) | (refine plan_move _ _ (by rfl) (by rfl) (.inr (by rfl)) (by first | (with_reducible exact Mem.ev_const _ _) | (with_reducible exact Mem.ev_zero _ _ _) | (with_reducible (apply Eq.trans (Mem.ev_tmp _ _ _)); simp only [List.getD_cons_succ, List.getD_cons_zero] <;> rfl)) ?_) | (refine plan_pick_t _ _ _ _ (by rfl) (by rfl) (by rfl) (by first | (with_reducible exact Mem.ev_const _ _) | (with_reducible exact Mem.ev_zero _ _ _) | (with_reducible (apply Eq.trans (Mem.ev_tmp _ _ _)); simp only [List.getD_cons_succ, List.getD_cons_zero] <;> rfl)) (by first | (with_reducible exact Mem.ev_const _ _) | (with_reducible exact Mem.ev_zero _ _ _) | (with_reducible (apply Eq.trans (Mem.ev_tmp _ _ _)); simp only [List.getD_cons_succ, List.getD_cons_zero] <;> rfl)) ?_) | (refine plan_pick_f _ _ _ _ (by rfl) (by rfl) (by rfl) (by first | (with_reducible exact Mem.ev_const _ _) | (with_reducible exact Mem.ev_zero _ _ _) | (with_reducible (apply Eq.trans (Mem.ev_tmp _ _ _)); simp only [List.getD_cons_succ, List.getD_cons_zero] <;> rfl)) (by first | (with_reducible exact Mem.ev_const _ _) | (with_reducible exact Mem.ev_zero _ _ _) | (with_reducible (apply Eq.trans (Mem.ev_tmp _ _ _)); simp only [List.getD_cons_succ, List.getD_cons_zero] <;> rfl)) ?_))
      (simp only [Act.put, List.setIfInBounds_toArray, List.set_cons_zero, List.set_cons_succ])
      (first | (refine plan_move _ _ (by rfl) (by rfl) (.inl (by rfl)) (by first | (with_reducible exact Mem.ev_const _ _) | (with_reducible exact Mem.ev_zero _ _ _) | (with_reducible (apply Eq.trans (Mem.ev_tmp _ _ _)); simp only [List.getD_cons_succ, List.getD_cons_zero] <;> rfl)) ?_) | (refine plan_move _ _ (by rfl) (by rfl) (.inr (by rfl)) (by first | (with_reducible exact Mem.ev_const _ _) | (with_reducible exact Mem.ev_zero _ _ _) | (with_reducible (apply Eq.trans (Mem.ev_tmp _ _ _)); simp only [List.getD_cons_succ, List.getD_cons_zero] <;> rfl)) ?_) | (refine plan_pick_t _ _ _ _ (by rfl) (by rfl) (by rfl) (by first | (with_reducible exact Mem.ev_const _ _) | (with_reducible exact Mem.ev_zero _ _ _) | (with_reducible (apply Eq.trans (Mem.ev_tmp _ _ _)); simp only [List.getD_cons_succ, List.getD_cons_zero] <;> rfl)) (by first | (with_reducible exact Mem.ev_const _ _) | (with_reducible exact Mem.ev_zero _ _ _) | (with_reducible (apply Eq.trans (Mem.ev_tmp _ _ _)); simp only [List.getD_cons_succ, List.getD_cons_zero] <;> rfl)) ?_) | (refine plan_pick_f _ _ _ _ (by rfl) (by rfl) (by rfl) (by first | (with_reducible exact Mem.ev_const _ _) | (with_reducible exact Mem.ev_zero _ _ _) | (with_reducible (apply Eq.trans (Mem.ev_tmp _ _ _)); simp only [List.getD_cons_succ, List.getD_cons_zero] <;> rfl)) (by first | (with_reducible exact Mem.ev_const _ _) | (with_reducible exact Mem.ev_zero _ _ _) | (with_reducible (apply Eq.trans (Mem.ev_tmp _ _ _)); simp only [List.getD_cons_succ, List.getD_cons_zero] <;> rfl)) ?_))
      (simp only [Act.put, List.setIfInBounds_toArray, List.set_cons_zero, List.set_cons_succ])
      refine plan_index_arr1 24 5 32 _ _ w.heap.size j (by rfl) (by rfl) (by rfl) (by first | (with_reducible exact Mem.ev_const _ _) | (with_reducible exact Mem.ev_zero _ _ _) | (with_reducible (apply Eq.trans (Mem.ev_tmp _ _ _)); simp only [List.getD_cons_succ, List.getD_cons_zero] <;> rfl)) (by first | (with_reducible exact Mem.ev_const _ _) | (with_reducible exact Mem.ev_zero _ _ _) | (with_reducible (apply Eq.trans (Mem.ev_tmp _ _ _)); simp only [List.getD_cons_succ, List.getD_cons_zero] <;> rfl)) hlt Tryd.underlying24 infoB ?_
      (simp only [Act.put, List.setIfInBounds_toArray, List.set_cons_zero, List.set_cons_succ])
      refine plan_cell 5 _ _ _ _ (by rfl) (by rfl) (by rfl) (by first | (with_reducible exact Mem.ev_const _ _) | (with_reducible exact Mem.ev_zero _ _ _) | (with_reducible (apply Eq.trans (Mem.ev_tmp _ _ _)); simp only [List.getD_cons_succ, List.getD_cons_zero] <;> rfl)) (fun w' hw' => hw'.1) Tryd.underlying5 (by rfl) ?_
      (simp only [Act.put, List.setIfInBounds_toArray, List.set_cons_zero, List.set_cons_succ])
      (first | (refine plan_move _ _ (by rfl) (by rfl) (.inl (by rfl)) (by first | (with_reducible exact Mem.ev_const _ _) | (with_reducible exact Mem.ev_zero _ _ _) | (with_reducible (apply Eq.trans (Mem.ev_tmp _ _ _)); simp only [List.getD_cons_succ, List.getD_cons_zero] <;> rfl)) ?_) | (refine plan_move _ _ (by rfl) (by rfl) (.inr (by rfl)) (by first | (with_reducible exact Mem.ev_const _ _) | (with_reducible exact Mem.ev_zero _ _ _) | (with_reducible (apply Eq.trans (Mem.ev_tmp _ _ _)); simp only [List.getD_cons_succ, List.getD_cons_zero] <;> rfl)) ?_) | (refine plan_pick_t _ _ _ _ (by rfl) (by rfl) (by rfl) (by first | (with_reducible exact Mem.ev_const _ _) | (with_reducible exact Mem.ev_zero _ _ _) | (with_reducible (apply Eq.trans (Mem.ev_tmp _ _ _)); simp only [List.getD_cons_succ, List.getD_cons_zero] <;> rfl)) (by first | (with_reducible exact Mem.ev_const _ _) | (with_reducible exact Mem.ev_zero _ _ _) | (with_reducible (apply Eq.trans (Mem.ev_tmp _ _ _)); simp only [List.getD_cons_succ, List.getD_cons_zero] <;> rfl)) ?_) | (refine plan_pick_f _ _ _ _ (by rfl) (by rfl) (by rfl) (by first | (with_reducible exact Mem.ev_const _ _) | (with_reducible exact Mem.ev_zero _ _ _) | (with_reducible (apply Eq.trans (Mem.ev_tmp _ _ _)); simp only [List.getD_cons_succ, List.getD_cons_zero] <;> rfl)) (by first | (with_reducible exact Mem.ev_const _ _) | (with_reducible exact Mem.ev_zero _ _ _) | (with_reducible (apply Eq.trans (Mem.ev_tmp _ _ _)); simp only [List.getD_cons_succ, List.getD_cons_zero] <;> rfl)) ?_))
      (simp only [Act.put, List.setIfInBounds_toArray, List.set_cons_zero, List.set_cons_succ])
      refine plan_index_arr1 24 5 32 _ _ (w.heap.size + 1) j (by rfl) (by rfl) (by rfl) (by first | (with_reducible exact Mem.ev_const _ _) | (with_reducible exact Mem.ev_zero _ _ _) | (with_reducible (apply Eq.trans (Mem.ev_tmp _ _ _)); simp only [List.getD_cons_succ, List.getD_cons_zero] <;> rfl)) (by first | (with_reducible exact Mem.ev_const _ _) | (with_reducible exact Mem.ev_zero _ _ _) | (with_reducible (apply Eq.trans (Mem.ev_tmp _ _ _)); simp only [List.getD_cons_succ, List.getD_cons_zero] <;> rfl)) hlt Tryd.underlying24 infoB ?_
      (simp only [Act.put, List.setIfInBounds_toArray, List.set_cons_zero, List.set_cons_succ])
      refine plan_cell 5 _ _ _ _ (by rfl) (by rfl) (by rfl) (by first | (with_reducible exact Mem.ev_const _ _) | (with_reducible exact Mem.ev_zero _ _ _) | (with_reducible (apply Eq.trans (Mem.ev_tmp _ _ _)); simp only [List.getD_cons_succ, List.getD_cons_zero] <;> rfl)) (fun w' hw' => hw'.2) Tryd.underlying5 (by rfl) ?_
      (simp only [Act.put, List.setIfInBounds_toArray, List.set_cons_zero, List.set_cons_succ])
      refine plan_bin _ _ _ _ _ _ _ _ (by rfl) (by rfl) (by rfl) (by first | (with_reducible exact Mem.ev_const _ _) | (with_reducible exact Mem.ev_zero _ _ _) | (with_reducible (apply Eq.trans (Mem.ev_tmp _ _ _)); simp only [List.getD_cons_succ, List.getD_cons_zero] <;> rfl)) (by first | (with_reducible exact Mem.ev_const _ _) | (with_reducible exact Mem.ev_zero _ _ _) | (with_reducible (apply Eq.trans (Mem.ev_tmp _ _ _)); simp only [List.getD_cons_succ, List.getD_cons_zero] <;> rfl)) (fun wx => o_xorb _ _ _ _ _ _ wx) ?_
      (simp only [Act.put, List.setIfInBounds_toArray, List.set_cons_zero, List.set_cons_succ])
      refine plan_index_arr1 24 5 32 _ _ (w.heap.size + 1 + 1 + 1) j (by rfl) (by rfl) (by rfl) (by first | (with_reducible exact Mem.ev_const _ _) | (with_reducible exact Mem.ev_zero _ _ _) | (with_reducible (apply Eq.trans (Mem.ev_tmp _ _ _)); simp only [List.getD_cons_succ, List.getD_cons_zero] <;> rfl)) (by first | (with_reducible exact Mem.ev_const _ _) | (with_reducible exact Mem.ev_zero _ _ _) | (with_reducible (apply Eq.trans (Mem.ev_tmp _ _ _)); simp only [List.getD_cons_succ, List.getD_cons_zero] <;> rfl)) hlt Tryd.underlying24 infoB ?_
      (simp only [Act.put, List.setIfInBounds_toArray, List.set_cons_zero, List.set_cons_succ])
      have c2 : (wr.drew.setCell ⟨w.heap.size + 1 + 1 + 1, j, none⟩ (.int .u8 (B8 (x ^^^ y)))).cell? ⟨w.heap.size, j, none⟩ = some (.int .u8 (B8 x)) := by
        rw [World.cell?_of_block (w := wr.drew) (heap_setCell_other wr.drew _ _ _ (by simp only; omega))]; exact CJ.out
      have d2 : (wr.drew.setCell ⟨w.heap.size + 1 + 1 + 1, j, none⟩ (.int .u8 (B8 (x ^^^ y)))).cell? ⟨w.heap.size + 1, j, none⟩ = some (.int .u8 (B8 y)) := by
        rw [World.cell?_of_block (w := wr.drew) (heap_setCell_other wr.drew _ _ _ (by simp only; omega))]; exact DJ.out
      refine plan_store_one 5 _ _ (w.heap.size + 1 + 1 + 1) j (.int .u8 (B8 (x ^^^ y))) E 24 (by rfl) (by rfl) (by rfl) (by rfl) (by first | (with_reducible exact Mem.ev_const _ _) | (with_reducible exact Mem.ev_zero _ _ _) | (with_reducible (apply Eq.trans (Mem.ev_tmp _ _ _)); simp only [List.getD_cons_succ, List.getD_cons_zero] <;> rfl)) (by first | (with_reducible exact Mem.ev_const _ _) | (with_reducible exact Mem.ev_zero _ _ _) | (with_reducible (apply Eq.trans (Mem.ev_tmp _ _ _)); simp only [List.getD_cons_succ, List.getD_cons_zero] <;> rfl)) (by rfl) infoB KK.out ES.out ⟨c2, d2⟩ ?_
      refine plan_nil ?_
      have I2 : Hid (RJInv C D (joinZ a b (j + 1)) w.heap.size X w (wr.drew.setCell ⟨w.heap.size + 1 + 1 + 1, j, none⟩ (.int .u8 (B8 (x ^^^ y))))) :=
        ⟨(show At wr.drew _ _ _ from II.out.c).set_other _ _ (by simp only; omega), (show At wr.drew _ _ _ from II.out.d).set_other _ _ (by simp only; omega), (show At wr.drew _ _ _ from II.out.r).set_other _ _ (by simp only; omega), by rw [← ST.out]; exact (show At wr.drew _ _ _ from KK.out).set j _, II.out.b.drew.setCell (by simp only; omega) _⟩
      clear c2 d2
      generalize wr.drew.setCell _ _ = w5 at *
      go_wp2_with fail
      go_roundw
      case rel => exact ⟨j + 1, by omega, by go_num, I2.out⟩
      case measure => simp [intOf]; omega
    · have hj32 : j = 32 := by omega
      have hall : joinZ a b j = joinB a b := by rw [hj32]; exact joinZ_all a b LA.out LB.out
      rw [hall] at hI
      have hge : ¬ (j : Int) < 32 := by omega
      obtain ⟨M, hM⟩ : ∃ M, M = jnOf a b := ⟨_, rfl⟩
      have hk := hI.k
      rw [show (u8s (joinB a b)).toArray = M from hM.symm] at hk
      have hMs : M.size = 32 := by rw [hM]; simp [jnOf, u8s, joinB_length a b (by rw [LA.out, LB.out]), LA.out]
      have hMo : M.all (·.oneCell') = true := by rw [hM]; exact u8s_one _
      have HM := Lib.hid hM; have MS := Lib.hid hMs; have MO := Lib.hid hMo; have KK := Lib.hid hk; have RR := Lib.hid hI.r; have BB := Lib.hid hI.b
      clear hM hMs hMo hk hI hall hj32 hlt hj
      go_wp2_with (first | (refine wpList_load_all (by rfl) 24 _ (by rfl) (w.heap.size + 1 + 1 + 1) (by rfl) _ Tryd.underlying24 (by rfl) M _ KK.out (by rw [MS.out]; exact info32) ?_) | (refine wpList_store_all (by rfl) 24 _ _ (by rfl) (by rfl) (w.heap.size + 1 + 1) M (by rfl) (by rfl) (by rw [MS.out]; exact info32) _ _ RR.out (by rw [MS.out, XS.out]) MO.out ?_))
      try simp only [Exit.inBlock, Exit.then]
      refine ret_row (by rfl) (w.heap.size + 1 + 1) 24 M _ (by rfl) (RR.out.row M) Tryd.underlying24 (by rfl) (by rw [MS.out]; exact info32) ?_
      exact ⟨by rw [HM.out], below_row BB.out (by omega) M⟩
end Sha
end Go.Proofs.YtjadjidjfkahpaaDoor
namespace Go.Proofs.YtjadjidjfkahpaaDoor
namespace Sha
open Go.RowKit Mem
/-- What the mac of round i is of. -/
def txt (p s : List (BitVec 8)) (n : BitVec 32) : Nat → List (BitVec 8)
  | 0 => s ++ be4 n
  | i + 1 => mcs p s n i
theorem txt_mac (p s : List (BitVec 8)) (n : BitVec 32) (i : Nat) : mcOf p (txt p s n i) = (u8s (mcs p s n i)).toArray := by
  cases i <;> rfl
/-- How many rounds are joined. -/
def rnds' (r : Int) : Nat := if roundsB r then r.toNat else 0
theorem quo_num (n : BitVec 32) : (#[.int .u8 ((V n).tdiv 16777216 % 256), .int .u8 ((V n).tdiv 65536 % 256), .int .u8 ((V n).tdiv 256 % 256), .int .u8 (V n % 256)] : Array Value) = (u8s (be4 n)).toArray := by
  have h0 := V_lo n
  have h1 := V_hi n
  have e24 : (V n).tdiv 16777216 % (256 : Int) = ((wb n 24).toNat : Int) := by rw [← wb24, Int.tdiv_eq_ediv_of_nonneg h0]
  have e16 : (V n).tdiv 65536 % (256 : Int) = ((wb n 16).toNat : Int) := by rw [← wb16, Int.tdiv_eq_ediv_of_nonneg h0]
  have e8 : (V n).tdiv 256 % (256 : Int) = ((wb n 8).toNat : Int) := by rw [← wb8, Int.tdiv_eq_ediv_of_nonneg h0]
  have e0 : V n % (256 : Int) = ((wb n 0).toNat : Int) := by rw [← wb0]
  rw [e24, e16, e8, e0]; rfl
structure RBInv (p s : List (BitVec 8)) (n : BitVec 32) (X : Array Value) (B j : Nat) (vt : Value) (w wr : World) : Prop where
  r : At wr B X 24
  acc : At wr (B + 1) (u8s (blk p s n j)).toArray 24
  t : OwnB wr w.heap.size vt (txt p s n j)
  b : Below w.heap.size w wr
set_option maxRecDepth 100000 in
set_option maxHeartbeats 1000000 in
theorem rblock_any (p s : List (BitVec 8)) (n : BitVec 32) (r : Int) (vp vs : Value) (w : World) (lp : p.length ≤ 1099511627776) (ls : s.length ≤ 1099511626000) (hp : Sl w vp p) (hs : Sl w vs s) :
    Calls Tryd.prog 38 #[vp, vs, .int .i64 r, .int .u32 (V n)] w fun e w' => e = .returned (.agg (bkOf p s n (rnds' r))) ∧ Below w.heap.size w w' := by
  obtain ⟨X, hX⟩ : ∃ X, X = Z32 := ⟨_, rfl⟩
  have hx := zero32
  rw [← hX] at hx
  have hXs : X.size = 32 := by rw [hX]; simp [Z32, u8s]
  obtain ⟨M, hM⟩ : ∃ M, M = bkOf p s n (rnds' r) := ⟨_, rfl⟩
  have hMs : M.size = 32 := by rw [hM]; exact bkOf_size _ _ _ _
  have hMo : M.all (·.oneCell') = true := by rw [hM]; exact bkOf_one _ _ _ _
  have hmac : ∀ (j : Nat) (wx : World) (v : Value), Below w.heap.size w wx → Sl wx v (txt p s n j) → Calls Tryd.prog 35 #[vp, v] wx fun e w' => e = .returned (.agg (u8s (mcs p s n j)).toArray) ∧ Below wx.heap.size wx w' := fun j wx v hx hv => by
    have h := rmac_any p (txt p s n j) vp v wx (hp.below hx) hv lp (by cases j <;> simp [txt, be4, mcs_length]; omega)
    rw [txt_mac] at h
    exact h
  have hjoin := fun (j : Nat) (wx : World) => rjoin_any (blk p s n j) (mcs p s n j) (blk_length p s n j) (mcs_length p s n j) wx
  have hs0 := hs
  obtain ⟨az, cz, rfl, _, _⟩ := hs
  obtain ⟨ns, hns⟩ : ∃ ns, ns = s.length := ⟨_, rfl⟩
  rw [← hns] at hs0 ⊢
  have b1 : Below w.heap.size w ((w.alloc (.cells X 24)).alloc (.cells X 24)) := ((Below.refl _ _).alloc (Nat.le_refl _) _).alloc (by simp) _
  have r1 : At ((w.alloc (.cells X 24)).alloc (.cells X 24)) w.heap.size X 24 := (at_new w X _).alloc _
  have k1 : At ((w.alloc (.cells X 24)).alloc (.cells X 24)) (w.heap.size + 1) X 24 := by
    have h := at_new (w.alloc (.cells X 24)) X 24
    simpa using h
  rw [← hM]
  have XS := Lib.hid hXs; have MS := Lib.hid hMs; have MO := Lib.hid hMo; have HM := Lib.hid hM; have MAC := Lib.hid hmac; have JN := Lib.hid hjoin
  have HS := Lib.hid hs0; have HN := Lib.hid hns; have HX := Lib.hid hX; have B1 := Lib.hid b1; have R1 := Lib.hid r1; have K1 := Lib.hid k1; have LS := Lib.hid ls
  clear hXs hMs hMo hM hmac hjoin hs0 hns hX b1 r1 k1 hp lp ls
  go_enter Tryd.func38, Tryd.ntmps38
  generalize hw1 : (w.alloc (.cells X 24)).alloc (.cells X 24) = w1 at *
  go_wp2_with (first
    | (at_builtin; refine wpList_append_bytes (by rfl) (.const (.slice none 0 0)) _ (by rfl) w.heap.size (.slice none 0 0) (.slice az ns cz) [] s (by rfl) (OwnB.nil _ _) (by rfl) (HS.out.below B1.out) (by have := HN.out; have := LS.out; simp; omega) B1.out.size ?_; intro v5 w5 ho5 hk5 hb5; have O5 := Lib.hid ho5; have B5 := Lib.hid (B1.out.trans hb5); have R5 := Lib.hid (At.app R1.out hk5 (by simp [Value.ownBlock])); have K5 := Lib.hid (At.app K1.out hk5 (by simp [Value.ownBlock])); clear ho5 hk5 hb5)
    | (at_builtin; refine wpList_append_bytes (by rfl) _ _ (by rfl) w.heap.size v5 (.slice (some ⟨w5.heap.size, 0, none⟩) 4 4) ([] ++ s) (be4 n) (by rfl) (O5.out.below ((Below.refl _ _).alloc (Nat.le_refl _) _)) (by rfl) (at_sl (by rw [← quo_num]; exact at_new w5 _ _) rfl) (by have := LS.out; simp [be4]; omega) (Nat.le_trans B5.out.size (by simp)) ?_; intro v6 w6 ho6 hk6 hb6; have O6 := Lib.hid ho6; have B6 := Lib.hid ((B5.out.alloc B5.out.size _).trans hb6); have R6 := Lib.hid (At.app (R5.out.alloc _) hk6 (O5.out.ne_at R5.out (by decide))); have K6 := Lib.hid (At.app (K5.out.alloc _) hk6 (O5.out.ne_at K5.out (by decide))); clear ho6 hk6 hb6))
  have I0 : Hid (RBInv p s n X w.heap.size 0 v6 w w6) := ⟨R6.out, by have h := K6.out; rw [show (u8s (blk p s n 0)).toArray = X by rw [HX.out]; rfl]; exact h, by have h := O6.out; rw [List.nil_append] at h; exact h, B6.out⟩
  clear O5 O6 B5 B6 R5 R6 K5 K6 R1 K1 B1 HS hw1
  obtain ⟨R, hR⟩ : ∃ R, R = rnds' r := ⟨_, rfl⟩
  have HR := Lib.hid hR
  clear hR
  obtain ⟨wo, rfl⟩ : ∃ wo : World, wo = w6 := ⟨_, rfl⟩
  go_loopw [10, 11, 12] (fun vt i _ wr => ∃ j : Nat, j ≤ R ∧ i = .int .i64 j ∧ RBInv p s n X w.heap.size j vt w wr) (fun _ i _ _ => R - (intOf i).toNat)
  case atStart => exact ⟨0, by omega, rfl, I0.out⟩
  case round =>
    clear I0
    obtain ⟨j, hj, rfl, hI⟩ := hrel
    by_cases hlt : j < R
    · have hrb : roundsB r = true := by
        cases h : roundsB r
        · have := HR.out; unfold rnds' at this; rw [h] at this; simp at this; omega
        · rfl
      have hRr : R = r.toNat := by have := HR.out; unfold rnds' at this; rw [hrb] at this; simpa using this
      have hr2 : r ≤ 10000 := by unfold roundsB at hrb; simp at hrb; omega
      have hjr : (j : Int) < r := by omega
      obtain ⟨D, hD⟩ : ∃ D, D = (u8s (mcs p s n j)).toArray := ⟨_, rfl⟩
      have hDs : D.size = 32 := by rw [hD]; simp [u8s, mcs_length]
      have hDo : D.all (·.oneCell') = true := by rw [hD]; exact u8s_one _
      obtain ⟨C, hC⟩ : ∃ C, C = (u8s (blk p s n j)).toArray := ⟨_, rfl⟩
      have hCs : C.size = 32 := by rw [hC]; simp [u8s, blk_length]
      obtain ⟨G, hG⟩ : ∃ G, G = jnOf (blk p s n j) (mcs p s n j) := ⟨_, rfl⟩
      have hGs : G.size = 32 := by rw [hG]; exact jnOf_size _ _ (blk_length p s n j) (mcs_length p s n j)
      have hGo : G.all (·.oneCell') = true := by rw [hG]; exact u8s_one _
      have hmac := fun (wx : World) (v : Value) (h1 : Below w.heap.size w wx) (h2 : Sl wx v (txt p s n j)) => MAC.out j wx v h1 h2
      have hjn := fun (wx : World) => JN.out j wx
      have hacc := hI.acc
      rw [← hC] at hacc hjn
      rw [← hD] at hmac hjn
      rw [← hG] at hjn
      have MC := Lib.hid hmac; have JJ := Lib.hid hjn; have AC := Lib.hid hacc; have RR := Lib.hid hI.r; have TT := Lib.hid hI.t; have BB := Lib.hid hI.b
      have DS := Lib.hid hDs; have DO := Lib.hid hDo; have CS := Lib.hid hCs; have GS := Lib.hid hGs; have GO := Lib.hid hGo; have HD := Lib.hid hD; have HG := Lib.hid hG
      clear hmac hjn hacc hI hDs hDo hCs hGs hGo hD hG hC hrb hRr
      go_wp2_with (first
        | (go_at_call 35; refine (MC.out _ _ BB.out TT.out.sl).mono ?_; rintro e w2 ⟨rfl, hb2⟩; have A2 := Lib.hid (AC.out.below hb2 AC.out.lt); have R2 := Lib.hid (RR.out.below hb2 RR.out.lt); have B2 := Lib.hid (BB.out.trans (hb2.mono BB.out.size)); clear hb2)
        | (refine wpList_store_new (by rfl) 24 _ _ (by rfl) (by rfl) D _ _ (by rfl) (by rfl) (by rw [DS.out]; exact info32) (by rw [DS.out, XS.out]) DO.out ?_; have D3 := Lib.hid (at_new w2 D 24); have A3 := Lib.hid (A2.out.alloc (.cells D 24)); have R3 := Lib.hid (R2.out.alloc (.cells D 24)); have B3 := Lib.hid (B2.out.alloc B2.out.size (.cells D 24)); have ND := Lib.hid (Nat.ne_of_gt A2.out.lt); generalize w2.alloc (.cells D 24) = w3 at *; generalize w2.heap.size = bd at *)
        | (refine wpList_load_all (by rfl) 24 _ (by rfl) (w.heap.size + 1) (by rfl) _ Tryd.underlying24 (by rfl) C _ A3.out (by rw [CS.out]; exact info32) ?_)
        | (refine wpList_load_all (by rfl) 24 _ (by rfl) bd (by rfl) _ Tryd.underlying24 (by rfl) D _ D3.out (by rw [DS.out]; exact info32) ?_)
        | (go_at_call 56; refine (JJ.out _).mono ?_; rintro e w4 ⟨rfl, hb4⟩; have A4 := Lib.hid (A3.out.below hb4 A3.out.lt); have R4 := Lib.hid (R3.out.below hb4 R3.out.lt); have D4 := Lib.hid (D3.out.below hb4 D3.out.lt); have B4 := Lib.hid (B3.out.trans (hb4.mono B3.out.size)); clear hb4)
        | (refine wpList_store_is (by rfl) 24 _ _ (by rfl) (by rfl) (w.heap.size + 1) 0 G (by rfl) (by rfl) (by rw [GS.out]; exact info32) C 24 A4.out (by rw [GS.out, CS.out]; decide) GO.out G (splice_all C G (by rw [GS.out, CS.out])) ?_; intro w5 ha5 hs5 ho5 hb5; have A5 := Lib.hid ha5; have R5 := Lib.hid (at_keep R4.out ho5 (by omega)); have D5 := Lib.hid (at_keep D4.out ho5 ND.out); have B5 := Lib.hid (hb5 _ _ B4.out (by omega)); clear ha5 hs5 ho5 hb5)
        | (at_builtin; refine wpList_append_bytes (by rfl) (.const (.slice none 0 0)) _ (by rfl) w.heap.size (.slice none 0 0) (.slice (some ⟨bd, 0, none⟩) 32 32) [] (mcs p s n j) (by rfl) (OwnB.nil _ _) (by rfl) (at_sl (by have h := D5.out; rw [HD.out] at h; exact h) (mcs_length p s n j)) (by rw [mcs_length]; decide) B5.out.size ?_; intro v6 w6 ho6 hk6 hb6; have I6 : Hid (RBInv p s n X w.heap.size (j + 1) v6 w w6) := ⟨At.app R5.out hk6 (by simp [Value.ownBlock]), by have h := At.app A5.out hk6 (by simp [Value.ownBlock]); rw [HG.out] at h; exact h, by rw [List.nil_append] at ho6; exact ho6, B5.out.trans hb6⟩; clear ho6 hk6 hb6))
      go_roundw
      case rel => exact ⟨j + 1, by omega, by go_num, I6.out⟩
      case measure => simp [intOf]; omega
    · have hjR : j = R := by omega
      have hacc := hI.acc
      rw [hjR, HR.out, show (u8s (blk p s n (rnds' r))).toArray = M from HM.out.symm] at hacc
      have AC := Lib.hid hacc; have RR := Lib.hid hI.r; have BB := Lib.hid hI.b
      have hcase : ¬ (j : Int) < r ∨ ((j : Int) < r ∧ ¬ r ≤ 10000) := by
        have h := HR.out
        unfold rnds' roundsB at h
        by_cases h1 : 1 ≤ r
        · by_cases h2 : r ≤ 10000
          · left; simp [h1, h2] at h; omega
          · right; simp [h2] at h; omega
        · left; simp [h1] at h; omega
      clear hacc hI hjR hlt hj
      rcases hcase with hc | ⟨hc1, hc2⟩
      · go_wp2_with (first | (refine wpList_load_all (by rfl) 24 _ (by rfl) (w.heap.size + 1) (by rfl) _ Tryd.underlying24 (by rfl) M _ AC.out (by rw [MS.out]; exact info32) ?_) | (refine wpList_store_all (by rfl) 24 _ _ (by rfl) (by rfl) w.heap.size M (by rfl) (by rfl) (by rw [MS.out]; exact info32) _ _ RR.out (by rw [MS.out, XS.out]) MO.out ?_))
        try simp only [Exit.inBlock, Exit.then]
        refine ret_row (by rfl) w.heap.size 24 M _ (by rfl) (RR.out.row M) Tryd.underlying24 (by rfl) (by rw [MS.out]; exact info32) ?_
        exact ⟨rfl, below_row BB.out (Nat.le_refl _) M⟩
      · go_wp2_with (first | (refine wpList_load_all (by rfl) 24 _ (by rfl) (w.heap.size + 1) (by rfl) _ Tryd.underlying24 (by rfl) M _ AC.out (by rw [MS.out]; exact info32) ?_) | (refine wpList_store_all (by rfl) 24 _ _ (by rfl) (by rfl) w.heap.size M (by rfl) (by rfl) (by rw [MS.out]; exact info32) _ _ RR.out (by rw [MS.out, XS.out]) MO.out ?_))
        try simp only [Exit.inBlock, Exit.then]
        refine ret_row (by rfl) w.heap.size 24 M _ (by rfl) (RR.out.row M) Tryd.underlying24 (by rfl) (by rw [MS.out]; exact info32) ?_
        exact ⟨rfl, below_row BB.out (Nat.le_refl _) M⟩
end Sha
end Go.Proofs.YtjadjidjfkahpaaDoor
namespace Go.Proofs.YtjadjidjfkahpaaDoor
namespace Sha
open Go.RowKit Mem
set_option maxRecDepth 100000 in
set_option maxHeartbeats 400000 in
theorem rskey_bad (r size : Int) (vp vs : Value) (w : World) (h : keyB r size = false) :
    Calls Tryd.prog 25 #[vp, vs, .int .i64 r, .int .i64 size] w fun e w' => e = .returned (.tuple #[.slice none 0 0, .int .i64 1]) ∧ w = w' := by
  unfold keyB roundsB at h
  by_cases h1 : r < 1
  · clear h
    go_enter Tryd.func25, Tryd.ntmps25
    go_wp2
    go_ret2
    exact ⟨rfl, rfl⟩
  by_cases h2 : (10000 : Int) < r
  · clear h
    go_enter Tryd.func25, Tryd.ntmps25
    go_wp2
    go_ret2
    exact ⟨rfl, rfl⟩
  by_cases h3 : size < 0
  · clear h
    go_enter Tryd.func25, Tryd.ntmps25
    go_wp2
    go_ret2
    exact ⟨rfl, rfl⟩
  have h4 : (1024 : Int) < size := by
    simp at h
    omega
  clear h
  go_enter Tryd.func25, Tryd.ntmps25
  go_wp2
  go_ret2
  exact ⟨rfl, rfl⟩
structure RKInv (p s : List (BitVec 8)) (r j : Nat) (v : Value) (w wr : World) : Prop where
  o : OwnB wr w.heap.size v (blks p s r j)
  b : Below w.heap.size w wr
def RKEnd (w : World) (L : List (BitVec 8)) (e : Ending) (w' : World) : Prop := ∃ v, e = .returned (.tuple #[v, .int .i64 0]) ∧ Sl w' v L ∧ Below w.heap.size w w'
set_option maxRecDepth 100000 in
set_option maxHeartbeats 1000000 in
theorem rskey_good (p s : List (BitVec 8)) (r size : Nat) (vp vs : Value) (w : World) (hr1 : 1 ≤ r) (hr2 : r ≤ 10000) (hz : size ≤ 1024) (lp : p.length ≤ 1099511627776) (ls : s.length ≤ 1099511626000) (hp : Sl w vp p) (hs : Sl w vs s) :
    Calls Tryd.prog 25 #[vp, vs, .int .i64 (r : Int), .int .i64 (size : Int)] w (RKEnd w (stretched p s r size)) := by
  obtain ⟨X, hX⟩ : ∃ X, X = Z32 := ⟨_, rfl⟩
  have hx := zero32
  rw [← hX] at hx
  have hXs : X.size = 32 := by rw [hX]; simp [Z32, u8s]
  have hrr : rnds' (r : Int) = r := by
    unfold rnds'
    rw [show roundsB (r : Int) = true by simp [roundsB]; omega]; simp
  have hbl : ∀ (j : Nat) (wx : World), Below w.heap.size w wx → Calls Tryd.prog 38 #[vp, vs, .int .i64 (r : Int), .int .u32 (V (BitVec.ofNat 32 (j + 1)))] wx fun e w' => e = .returned (.agg (u8s (blk p s (BitVec.ofNat 32 (j + 1)) r)).toArray) ∧ Below wx.heap.size wx w' := fun j wx hx => by
    have h := rblock_any p s (BitVec.ofNat 32 (j + 1)) (r : Int) vp vs wx lp ls (hp.below hx) (hs.below hx)
    rw [hrr] at h
    exact h
  have BL := Lib.hid hbl; have XS := Lib.hid hXs
  have g1 : ¬ (r : Int) < 1 := by omega
  have g2 : ¬ (10000 : Int) < (r : Int) := by omega
  have g3 : ¬ (size : Int) < 0 := by omega
  have g4 : ¬ (1024 : Int) < (size : Int) := by omega
  clear hbl hXs hX hrr hp hs lp ls
  go_enter Tryd.func25, Tryd.ntmps25
  go_wp2_with fail
  generalize Value.bool (decide ((1024 : Int) < (size : Int))) = q24
  go_loopw [10, 11, 12] (fun vo vn _ wr => ∃ j : Nat, 32 * j ≤ size + 31 ∧ vn = .int .u32 (V (BitVec.ofNat 32 (j + 1))) ∧ RKInv p s r j vo w wr) (fun vo _ _ _ => 2000 - (match vo with | .slice _ l _ => l | _ => 0))
  case atStart => exact ⟨0, by omega, rfl, OwnB.nil _ _, Below.refl _ _⟩
  case round =>
    obtain ⟨j, hj, rfl, hI⟩ := hrel
    obtain ⟨ao, co, hvo, hco, _⟩ := hI.o.open
    rw [blks_length] at hvo hco
    subst hvo
    by_cases hlt : 32 * j < size
    · have hlt' : 32 * (j : Int) < (size : Int) := by omega
      obtain ⟨N, hN⟩ : ∃ N, N = BitVec.ofNat 32 (j + 1) := ⟨_, rfl⟩
      have hN2 : (V N + 1) % (4294967296 : Int) = V (BitVec.ofNat 32 (j + 1 + 1)) := by rw [hN]; exact V_next j (by omega)
      have hb := fun wx h => BL.out j wx h
      obtain ⟨T, hT⟩ : ∃ T, T = blk p s N r := ⟨_, rfl⟩
      have hTl : T.length = 32 := by rw [hT]; exact blk_length _ _ _ _
      have hnx : blks p s r (j + 1) = blks p s r j ++ T := by rw [hT, hN]; rfl
      obtain ⟨D, hD⟩ : ∃ D, D = (u8s T).toArray := ⟨_, rfl⟩
      have hDs : D.size = 32 := by rw [hD]; simp [u8s, hTl]
      have hDo : D.all (·.oneCell') = true := by rw [hD]; exact u8s_one _
      rw [← hN, ← hT, ← hD] at hb
      rw [← hN]
      have BJ := Lib.hid hb; have N2 := Lib.hid hN2; have TL := Lib.hid hTl; have NX := Lib.hid hnx; have HD := Lib.hid hD; have DS := Lib.hid hDs; have DO := Lib.hid hDo; have OO := Lib.hid hI.o; have BB := Lib.hid hI.b; have BLN := Lib.hid (blks_length p s r j)
      clear hb hN2 hTl hnx hD hDs hDo hI hT hN hco
      go_wp2_with (first
        | (go_at_call 38; refine (BJ.out _ BB.out).mono ?_; rintro e w2 ⟨rfl, hb2⟩; have O2 := Lib.hid (OO.out.below hb2); have B2 := Lib.hid (BB.out.trans (hb2.mono BB.out.size)); clear hb2)
        | (refine wpList_store_new (by rfl) 24 _ _ (by rfl) (by rfl) D _ _ (by rfl) (by rfl) (by rw [DS.out]; exact info32) (by rw [DS.out, XS.out]) DO.out ?_; have D3 := Lib.hid (at_new w2 D 24); have O3 := Lib.hid (O2.out.below ((Below.refl _ _).alloc (Nat.le_refl _) (.cells D 24))); have B3 := Lib.hid (B2.out.alloc B2.out.size (.cells D 24)); generalize w2.alloc (.cells D 24) = w3 at *; generalize w2.heap.size = bd at *)
        | (at_builtin; refine wpList_append_bytes (by rfl) _ _ (by rfl) w.heap.size (.slice ao (32 * j) co) (.slice (some ⟨bd, 0, none⟩) 32 32) (blks p s r j) T (by rfl) O3.out (by rfl) (at_sl (by have h := D3.out; rw [HD.out] at h; exact h) TL.out) (by rw [TL.out, BLN.out]; omega) B3.out.size ?_; intro v4 w4 ho4 hk4 hb4; have O4 : Hid (OwnB w4 w.heap.size v4 (blks p s r (j + 1))) := (by rw [NX.out]; exact ho4); have B4 := Lib.hid (B3.out.trans hb4); clear ho4 hk4 hb4))
      rw [N2.out]
      go_roundw
      case rel => exact ⟨j + 1, by omega, rfl, O4.out, B4.out⟩
      case measure =>
        obtain ⟨a5, c5, hv5, _, _⟩ := O4.out.open
        rw [blks_length] at hv5
        subst hv5
        simp only
        omega
    · have hge : ¬ 32 * (j : Int) < (size : Int) := by omega
      have hst := stretched_from p s r size j (by omega)
      have hsl : ∀ a', (32 * j ≠ 0 → a' = ao) → Sl wr (.slice a' size co) (stretched p s r size) := fun a' ha => by
        obtain ⟨a6, c6, e6, _, hr6⟩ := hI.o.sl
        rw [blks_length] at e6
        injection e6 with e61 _ e63
        have hl := stretched_length p s r size
        refine ⟨a', co, by rw [hl], by rw [hl]; omega, fun hne => ?_⟩
        have hp0 : 0 < size := by
          rcases Nat.eq_zero_or_pos size with h | h
          · rw [h] at hl; exact absurd (List.eq_nil_of_length_eq_zero hl) (by rw [← h]; exact hne)
          · exact h
        obtain ⟨bb, oo, e7, hlt7, hc7⟩ := hr6 (by intro e; have := blks_length p s r j; rw [e] at this; simp at this; omega)
        refine ⟨bb, oo, by rw [ha (by omega), e61, e7], hlt7, fun i hi => ?_⟩
        rw [hl] at hi
        rw [hc7 i (by rw [blks_length]; omega), ← hst]
        simp [List.getD_eq_getElem?_getD, hi]
      have hsz : size ≤ co := by omega
      have SL := Lib.hid hsl; have BB := Lib.hid hI.b
      clear hsl hst hI
      go_wp2_with fail
      go_ret2
      refine ⟨_, rfl, ?_, BB.out⟩
      exact SL.out _ (fun _ => rfl)
end Sha
end Go.Proofs.YtjadjidjfkahpaaDoor
