/- The program's register in memory: an account; what only tells. -/
import Derived.Test.YtknaimpnkflfnaaClone
import Derived.Test.YtknaimpnkflfnaaApp
import Derived.Test.YtknaimpnkflfnaaAncPParse
import Derived.Test.YtknaimpnkflfnaaAncPLay
namespace Go.Proofs.Ytknaimpnkflfnaa
namespace Sha
open Go.RowKit Mem
def rawOf : Option Anc → List (BitVec 8)
  | none => []
  | some a => layA a
def u32n (l : List Nat) : List Value := l.map fun (n : Nat) => Value.int .u32 (n : Int)
theorem u32n_length (l : List Nat) : (u32n l).length = l.length := by simp [u32n]
theorem u32n_snoc (l : List Nat) (n : Nat) : u32n l ++ [.int .u32 (n : Int)] = u32n (l ++ [n]) := by simp [u32n]
theorem u32n_one (l : List Nat) : ∀ u ∈ u32n l, u.oneCell' = true := by
  intro u hu
  obtain ⟨n, _, rfl⟩ := List.mem_map.1 hu
  rfl
def rgRow (vr ve : Value) : Array Value := #[vr, ve]
theorem elemU32 : elemR Try.prog 52 22 (.int .u32 0) 1 4 := ⟨Try.underlying52, by kernel_rfl⟩
/-- The register lies at block br, all its memory in blocks of F. -/
structure PReg (F : Foot) (br : Nat) (w : World) (o : Option Anc) (es : List Nat) : Prop where
  box : F br
  lt : ∀ k, F k → k < w.heap.size
  ok : ∀ a, o = some a → a.Wf ∧ mayA a = true
  h : ∃ vr ve, At w br (rgRow vr ve) 56 ∧ SlB (fun k => F k ∧ k ≠ br) w vr (rawOf o) ∧ w.ownsRow 0 22 1 ve es.length (u32n es) ∧ ∀ k, ve.ownBlock = some k → F k ∧ k ≠ br
theorem PReg.keep {F : Foot} {br : Nat} {w w' : World} {o : Option Anc} {es : List Nat} (h : PReg F br w o es) (hs : w.heap.size ≤ w'.heap.size) (hk : ∀ k, F k → k < w.heap.size → w'.heap[k]? = w.heap[k]?) : PReg F br w' o es := by
  obtain ⟨vr, ve, h1, h2, h3, h4⟩ := h.h
  refine ⟨h.box, fun k hF => Nat.lt_of_lt_of_le (h.lt k hF) hs, h.ok, vr, ve, ?_, h2.keep hs fun k hF hlt => hk k hF.1 hlt, ownsRow_keep h3 fun g hg => hk g (h4 g hg).1 (h.lt g (h4 g hg).1), h4⟩
  unfold At at *
  rw [hk br h.box (h.lt br h.box)]; exact h1
theorem PReg.below {F : Foot} {br : Nat} {w w' : World} {o : Option Anc} {es : List Nat} (h : PReg F br w o es) (hb : Below w.heap.size w w') : PReg F br w' o es := h.keep hb.size fun k _ hlt => hb.block k hlt
theorem PReg.chg {F G : Foot} {br : Nat} {w w' : World} {o : Option Anc} {es : List Nat} (h : PReg F br w o es) (hc : Chg G w w') (hd : ∀ k, F k → ¬ G k) : PReg F br w' o es := h.keep hc.size fun k hF hlt => hc.block k hlt (hd k hF)
theorem PReg.new {br : Nat} {w : World} (h : At w br (rgRow (.slice none 0 0) (.slice none 0 0)) 56) : PReg (fun k => k = br) br w none [] :=
  ⟨rfl, fun k hk => by subst hk; exact h.lt, fun a ha => (by cases ha), ⟨_, _, h, slB_nil _ _, ownsRow_nil0 _ _ _ _, fun k hk => by simp [Value.ownBlock] at hk⟩⟩
abbrev rr (br : Nat) : Value := .pointer (some ⟨br, 0, none⟩)
theorem rawOf_len {o : Option Anc} (h : ∀ a, o = some a → a.Wf ∧ mayA a = true) : (rawOf o).length ≤ 128 := by
  cases o with
  | none => simp [rawOf]
  | some a => rw [rawOf, layA_length (h a rfl).1]; omega
set_option maxHeartbeats 1000000 in
theorem pnew_any (w : World) : Calls Try.prog 22 #[] w fun e w' => ∃ b, e = .returned (rr b) ∧ PReg (fun k => k = b) b w' none [] ∧ w.heap.size ≤ b ∧ Below w.heap.size w w' := by
  go_enter Try.func22, Try.ntmps22
  go_wp2_with fail
  go_ret
  exact ⟨w.heap.size, rfl, PReg.new (at_new w _ _), Nat.le_refl _, (Below.refl _ w).alloc (Nat.le_refl _) _⟩
set_option maxHeartbeats 1000000 in
theorem pcount_any {F : Foot} {br : Nat} {w : World} {o : Option Anc} {es : List Nat} (h : PReg F br w o es) : Calls Try.prog 20 #[rr br] w fun e w' => e = .returned (.int .i64 (es.length : Int)) ∧ w = w' := by
  obtain ⟨vr, ve, h1, _, h3, _⟩ := h.h
  obtain ⟨a, c, rfl⟩ := rows_hd h3
  have c1 : w.cell? ⟨br, 1, none⟩ = some (.slice a es.length c) := by rw [h1.cell]; rfl
  clear h h1 h3
  generalize es.length = n at *
  go_enter Try.func20, Try.ntmps20
  go_wp2_with fail
  go_ret
  exact ⟨rfl, rfl⟩
set_option maxHeartbeats 1000000 in
theorem praw_any {F : Foot} {br : Nat} {w : World} {o : Option Anc} {es : List Nat} (h : PReg F br w o es) : Calls Try.prog 19 #[rr br] w (PadEnd w (rawOf o)) := by
  obtain ⟨vr, ve, h1, h2, _, _⟩ := h.h
  have hl := rawOf_len h.ok
  have hcl := pclone_any (rawOf o) vr w (by omega) h2.sl
  have c0 : w.cell? ⟨br, 0, none⟩ = some vr := by rw [h1.cell]; rfl
  obtain ⟨_, a, c, rfl, _, _⟩ := h2
  have CL := Lib.hid hcl
  clear hcl h h1 hl
  generalize (rawOf o).length = n at *
  go_enter Try.func19, Try.ntmps19
  go_wp2_with fail
  refine CL.out.mono ?_
  rintro e w' ⟨v, rfl, ho, hb⟩
  have HO := Lib.hid ho; have HB := Lib.hid hb
  clear ho hb
  go_wp2_with fail
  go_ret
  exact ⟨_, rfl, HO.out, HB.out⟩
set_option maxRecDepth 100000 in
set_option maxHeartbeats 1000000 in
/-- slices.Clone of 32-bit words: its own text is walked. -/
theorem uclone_any (l : List Nat) (v : Value) (w : World) (bl : l.length ≤ 1000000) (hv : w.ownsRow 0 22 1 v l.length (u32n l)) : Calls Try.prog 35 #[v] w fun e w' => ∃ v', e = .returned v' ∧ w'.ownsRow w.heap.size 22 1 v' l.length (u32n l) ∧ Below w.heap.size w w' := by
  have q22 : ∀ (w : World) (a : Option Addr) (n c n' c' : Nat), (binOp .eql 52 (.slice a n c) (.slice none n' c')).run Try.prog w = .ok (.bool a.isNone) w := fun w a n c n' c' => Lib.run_eql_slice_nil w _ _ a n c n' c' Try.underlying52
  have hv0 := ownsRow_slR hv
  have hone := u32n_one l
  obtain ⟨a0, cap, rfl⟩ := rows_hd hv
  obtain ⟨m, hm⟩ : ∃ m, m = l.length := ⟨_, rfl⟩
  cases a0 with
  | none =>
    have hl : l = [] := by
      obtain ⟨_, h | ⟨g, _, _, h, _⟩⟩ := hv
      · exact List.eq_nil_of_length_eq_zero h.2
      · cases h
    subst hl
    clear hv0 hm hv
    go_enter Try.func35, Try.ntmps35
    go_wp2
    go_ret
    exact ⟨_, rfl, ownsRow_nil0 _ _ _ _, Below.refl _ _⟩
  | some ad =>
    have hsl := SlR.rd (hv0.below ((Below.refl _ _).alloc (Nat.le_refl _) (.cells #[] 22)))
    have hb0 : Below w.heap.size w (w.alloc (.cells #[] 22)) := (Below.refl _ _).alloc (Nat.le_refl _) _
    have how : (w.alloc (.cells #[] 22)).ownsRow w.heap.size 22 1 (.slice (some ⟨w.heap.size, 0, none⟩) 0 0) 0 [] := own_none w w.heap.size (Nat.le_refl _)
    rw [← hm] at bl hsl ⊢
    have HV := Lib.hid hsl; have HB := Lib.hid hb0; have HO := Lib.hid how; have HONE := Lib.hid hone
    clear hv0 hm hsl hb0 how hone hv
    go_enter Try.func35, Try.ntmps35
    go_wp2_with (at_builtin; refine wpList_append_rows (by rfl) _ _ 52 (by rfl) (.slice (some ad) m cap) 0 m 1 (u32n l) (.int .u32 0) 4 elemU32 (by rfl) (by decide) (by rfl) HO.out (by rfl) HV.out HONE.out (by omega) (by omega) (by simp) ?_; intro v5 w5 ho5 _ hb5; have O5 := Lib.hid ho5; have B5 := Lib.hid (HB.out.trans hb5); clear ho5 hb5)
    go_ret
    exact ⟨_, rfl, by simpa using O5.out, B5.out⟩
set_option maxHeartbeats 1000000 in
theorem pepochs_any {F : Foot} {br : Nat} {w : World} {o : Option Anc} {es : List Nat} (h : PReg F br w o es) (hl : es.length ≤ 1000) : Calls Try.prog 21 #[rr br] w fun e w' => ∃ v', e = .returned v' ∧ w'.ownsRow w.heap.size 22 1 v' es.length (u32n es) ∧ Below w.heap.size w w' := by
  obtain ⟨vr, ve, h1, _, h3, _⟩ := h.h
  have hcl := uclone_any es ve w (by omega) h3
  have c1 : w.cell? ⟨br, 1, none⟩ = some ve := by rw [h1.cell]; rfl
  obtain ⟨a, c, rfl⟩ := rows_hd h3
  have CL := Lib.hid hcl
  clear hcl h h1 h3
  go_enter Try.func21, Try.ntmps21
  go_wp2_with fail
  refine CL.out.mono ?_
  rintro e w' ⟨v, rfl, ho, hb⟩
  have HO := Lib.hid ho; have HB := Lib.hid hb
  clear ho hb
  go_wp2_with fail
  go_ret
  exact ⟨_, rfl, HO.out, HB.out⟩
/-- What Get tells. -/
def getA : Option Anc → Anc × Int
  | none => (zanc, 6)
  | some a => (a, 0)
set_option maxRecDepth 100000 in
set_option maxHeartbeats 1000000 in
theorem pget_any {F : Foot} {br : Nat} {w : World} {o : Option Anc} {es : List Nat} (h : PReg F br w o es) : Calls Try.prog 17 #[rr br] w fun e w' => e = .returned (.tuple #[.agg (ancC (getA o).1), .int .i64 (getA o).2]) ∧ Below w.heap.size w w' := by
  obtain ⟨vr, ve, h1, h2, _, _⟩ := h.h
  obtain ⟨Z, hZ⟩ : ∃ Z, Z = ancC zanc := ⟨_, rfl⟩
  have zs : Z.size = 71 := by rw [hZ]; exact ancC_size zanc_wf
  have zo : Z.all (·.oneCell') = true := by rw [hZ]; exact ancC_one _
  have hx : ∀ w, (zeroValue 31).run Try.prog w = .ok (.agg Z) w := by rw [hZ]; exact zeroAncP
  have bn : ∀ w, (Instr.build 31 #[]).run Try.prog w = .ok (.agg Z) w := by rw [hZ]; exact buildP0
  have az := at_new w Z 31
  have bz : Below w.heap.size w (w.alloc (.cells Z 31)) := (Below.refl _ _).alloc (Nat.le_refl _) _
  have h1' := h1.below bz h1.lt
  have h2' := h2.sl.below bz
  obtain ⟨w1, hw1⟩ : ∃ w1, w1 = w.alloc (.cells Z 31) := ⟨_, rfl⟩
  rw [← hw1] at az bz h1' h2'
  have c0 : w1.cell? ⟨br, 0, none⟩ = some vr := by rw [h1'.cell]; rfl
  have ZS := Lib.hid zs; have ZO := Lib.hid zo; have BN := Lib.hid bn; have AZ := Lib.hid az; have BZ := Lib.hid bz; have HZ := Lib.hid hZ
  obtain ⟨_, a, c, rfl, _, _⟩ := h2
  cases o with
  | none =>
    have e0 : (rawOf none).length = 0 := rfl
    rw [e0] at c0
    clear zs zo bn az bz hZ h h1 h1' h2' e0
    unfold getA
    simp only
    go_enter Try.func17, Try.ntmps17
    go_upto_region 1 with fail
    clear hx
    rw [← hw1]
    clear hw1
    go_wp2_with (first
      | (refine Mem.wpList_build (by rfl) 31 _ #[] (.agg Z) (by rfl) (by simp) BN.out ?_)
      | (refine wpList_store_all (by rfl) 31 _ _ (by rfl) (by rfl) w.heap.size Z (by rfl) (by rfl) (by rw [ZS.out]; exact infoAncP) Z 31 AZ.out (by rfl) ZO.out ?_))
    try simp only [Exit.inBlock, Exit.then]
    refine ret_row_tmp (by rfl) w.heap.size 31 Z _ _ (by rfl) (by rfl) (AZ.out.row Z) Try.underlying31 (by rfl) (by rw [ZS.out]; exact infoAncP) ?_
    exact ⟨by rw [HZ.out]; rfl, below_row BZ.out (Nat.le_refl _) Z⟩
  | some y =>
    obtain ⟨hwf, hmy⟩ := h.ok y rfl
    have hll : (rawOf (some y)).length = 128 := layA_length hwf
    have hpp := pparse_any (rawOf (some y)) _ w1 h2' (by rw [hll]; decide)
    have hpa : parseA (rawOf (some y)) = (y, 0) := parseA_layA y hwf hmy
    rw [hpa] at hpp
    rw [hll] at hpp c0
    obtain ⟨M, hM⟩ : ∃ M, M = ancC y := ⟨_, rfl⟩
    have ms : M.size = 71 := by rw [hM]; exact ancC_size hwf
    have mo : M.all (·.oneCell') = true := by rw [hM]; exact ancC_one _
    simp only at hpp
    rw [← hM] at hpp
    unfold getA
    simp only
    rw [← hM]
    have PP := Lib.hid hpp; have MS := Lib.hid ms; have MO := Lib.hid mo
    clear zs zo bn az bz hZ h h1 h1' h2' hll hpp hpa ms mo hM hwf hmy
    have g1 : ¬ (128 : Int) = 0 := by decide
    go_enter Try.func17, Try.ntmps17
    go_upto_region 1 with fail
    clear hx
    rw [← hw1]
    clear hw1
    go_wp2_with fail
    refine PP.out.mono ?_
    rintro e w2 ⟨rfl, hb2⟩
    have A2 := Lib.hid (AZ.out.below hb2 AZ.out.lt); have B2 := Lib.hid (BZ.out.trans (hb2.mono BZ.out.size))
    clear hb2
    go_wp2_with (refine wpList_store_all (by rfl) 31 _ _ (by rfl) (by rfl) w.heap.size M (by rfl) (by rfl) (by rw [MS.out]; exact infoAncP) Z 31 A2.out (by rw [MS.out, ZS.out]) MO.out ?_)
    try simp only [Exit.inBlock, Exit.then]
    refine ret_row_tmp (by rfl) w.heap.size 31 M _ _ (by rfl) (by rfl) (A2.out.row M) Try.underlying31 (by rfl) (by rw [MS.out]; exact infoAncP) ?_
    exact ⟨rfl, below_row B2.out (Nat.le_refl _) M⟩
end Sha
end Go.Proofs.Ytknaimpnkflfnaa
