/- The program's cache: use, hold, Drop. -/
import Derived.Test.YteiffdccfmfdbaaLruPLow
namespace Go.Proofs.Yteiffdccfmfdbaa
namespace Sha
open Go.RowKit Mem
theorem elemInt : elemB Try.prog 47 3 (.int .i64 0) 8 := ⟨Try.underlying47, by kernel_rfl⟩
theorem unl_nodup {x : Int} {os : List Int} (h : os.Nodup) : (unl x os).Nodup := h.filter _
theorem unl_len (x : Int) (os : List Int) : (unl x os).length ≤ os.length := List.length_filter_le _ _
theorem use_nodup {x : Int} {os : List Int} (h : os.Nodup) : (unl x os ++ [x]).Nodup := by
  refine List.nodup_append.2 ⟨unl_nodup h, by simp, fun a ha c hc => ?_⟩
  have : c = x := by simpa using hc
  subst this
  simp [unl] at ha
  exact fun e => ha.2 e
set_option maxRecDepth 100000 in
set_option maxHeartbeats 2000000 in
theorem puse_raw {F : Foot} {b room n : Nat} {pg : Int → Option (List (BitVec 8))} {pn : Int → Bool} {os : List Int} (x : Int) (w : World) (h : PRaw F b w room n pg pn os) (hn : os.Nodup) (hl : os.length ≤ 1000000) : Calls Try.prog 27 #[cq b, .int .i64 x] w fun e w' => e = .returned (.tuple #[]) ∧ REnd F b w room n pg pn (unl x os ++ [x]) w' := by
  have hU := punl_raw x w h hn
  have hl2 : (unl x os).length ≤ 1000000 := Nat.le_trans (unl_len x os) hl
  obtain ⟨ox, hox⟩ : ∃ ox, ox = unl x os := ⟨_, rfl⟩
  rw [← hox] at hU hl2 ⊢
  have HU := Lib.hid hU; have HL := Lib.hid hl2
  clear hU hl2 h hn hl hox
  go_enter Try.func27, Try.ntmps27
  go_wp2_with fail
  refine HU.out.mono ?_
  rintro e w1 ⟨rfl, ⟨F1, ⟨bm, bp, v, f, h1⟩, hF1⟩, hc1⟩
  have c3 : w1.cell? ⟨b, 3, none⟩ = some v := by rw [h1.row.cell]; rfl
  obtain ⟨a, c, hvv⟩ := rows_hd h1.own
  rw [iz_length] at hvv
  obtain ⟨m, hm⟩ : ∃ m, m = ox.length := ⟨_, rfl⟩
  rw [← hm] at hvv
  rw [hvv] at h1 c3
  clear hm
  have hbl : Below w1.heap.size w1 (w1.alloc (.cells #[.int .i64 x] 3)) := (Below.refl _ _).alloc (Nat.le_refl _) _
  have H1 := Lib.hid h1; have HF := Lib.hid hF1; have HC := Lib.hid hc1; have BL := Lib.hid hbl
  have A2 : Hid (At (w1.alloc (.cells #[.int .i64 x] 3)) b (pcC room bm bp (.slice a m c)) 59) := Lib.hid (h1.row.alloc _)
  clear h1 hF1 hc1 hbl hvv HU
  go_wp2_with (first
    | (at_builtin; refine Mem.wpList_append_lit (B := 0) (v := .slice a m c) (xs := iz ox) (e := 3) (w := w1) (by rfl) _ _ 47 (by rfl) (.int .i64 x) (.int .i64 0) 8 elemInt (by rfl) (by rfl) H1.out.own (by rfl) (by rfl) (by have := HL.out; rw [iz_length]; omega) (by have := HL.out; rw [iz_length]; omega) (Nat.zero_le _) ?_; intro v5 w5 ho5 hk5 hb5 hv5; have A5 : Hid (At w5 b (pcC room bm bp (.slice a m c)) 59) := Lib.hid (Sha.At.app H1.out.row hk5 (own_ne_at H1.out.own H1.out.row (by decide))); have O5 : Hid (OwnI w5 0 v5 (ox ++ [x])) := Lib.hid (by show OwnV _ _ _ _ _; rw [iz_snoc]; exact ho5); have K5 := Lib.hid hk5; have B5 := Lib.hid hb5; have V5 := Lib.hid hv5; have V1 : Hid (v5.oneCell' = true) := Lib.hid (by obtain ⟨a5, c5, rfl⟩ := rows_hd ho5; rfl); clear ho5 hk5 hb5 hv5 c3)
    | (refine Mem.wpList_store_one (by rfl) 47 _ _ (by rfl) (by rfl) b 3 v5 (by rfl) (by rfl) V1.out infoSlI _ 59 A5.out (by simp [pcC]) ?_; intro w6 ha ho hk; have A6 : Hid (At w6 b (pcC room bm bp v5) 59) := Lib.hid (by have := ha; simpa [pcC] using this); have O6 := Lib.hid ho; have K6 := Lib.hid hk; clear ha ho hk))
  go_end0
  exact ⟨rfl, REnd.trans HF.out HC.out (unlist_end H1.out B5.out K5.out O5.out (fun k hk => V5.out.imp (fun e => by rw [← e]; exact hk) fun ⟨g, e, hg⟩ => by rw [e] at hk; injection hk with hk; omega) A6.out O6.out (K6.out 0 w5 (Below.refl _ _) (Nat.zero_le _)))⟩
end Sha
end Go.Proofs.Yteiffdccfmfdbaa
