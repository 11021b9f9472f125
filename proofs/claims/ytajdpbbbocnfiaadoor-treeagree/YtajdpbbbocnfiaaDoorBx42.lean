/- Layer 14's law TreeBack, over the contracts: all cases. Layer 14's law: slices of bytes that are others (Turned). -/
import Derived.Test.YtajdpbbbocnfiaaDoorBx39
import Derived.Test.YtajdpbbbocnfiaaDoorBx34
namespace Go.Proofs.YtajdpbbbocnfiaaDoor
namespace Sha
open Go.RowKit Mem
set_option maxRecDepth 100000
set_option maxHeartbeats 2000000 in
theorem back14_core (T : TreeP) (key : List (BitVec 8)) (ep : BitVec 32) (l : List (List (BitVec 8))) (v : Value) (w : World) (hT : TT w) (lk : key.length = 32) (hs : Sls w v l) :
    Calls Tryd.prog 3 #[.agg (u8s key).toArray, .int .u32 (V ep), v] w (fun e w' => e = .returned (.bool true) ∧ Below w.heap.size w w') := by
  by_cases hg : farP l = false ∧ l.length ≠ 0 ∧ l.length ≤ 216
  · exact back14_good T key ep l v w hT lk hs hg.1 hg.2.1 hg.2.2
  · have fr := fun wx (h : Below w.heap.size w wx) => far14_any l v wx (hs.below h)
    have live := fun wx (h : Below w.heap.size w wx) => alive14_any T wx (hT.below h)
    have hc : farP l = true ∨ (farP l = false ∧ l.length = 0) ∨ (farP l = false ∧ 216 < l.length) := by
      cases h : farP l
      · by_cases h0 : l.length = 0
        · exact .inr (.inl ⟨rfl, h0⟩)
        · exact .inr (.inr ⟨rfl, by by_cases h1 : l.length ≤ 216; exact absurd ⟨h, h0, h1⟩ hg; omega⟩)
      · exact .inl rfl
    obtain ⟨KC, hKC⟩ : ∃ K, K = (u8s key).toArray := ⟨_, rfl⟩
    rw [← hKC]
    have kb : Below w.heap.size w (w.alloc (.cells KC 22)) := (Below.refl _ _).alloc (Nat.le_refl _) _
    obtain ⟨asx, cap, rfl, _, _⟩ := hs
    obtain ⟨n, hn⟩ : ∃ n, n = l.length := ⟨_, rfl⟩
    obtain ⟨q, hq⟩ : ∃ q, q = farP l := ⟨_, rfl⟩
    rw [← hn, ← hq] at fr hc
    rw [← hn]
    have FR := Lib.hid fr; have LIVE := Lib.hid live; have KB := Lib.hid kb
    clear fr live kb hg hn hq hKC hT lk
    rcases hc with rfl | ⟨rfl, h0⟩ | ⟨rfl, h0⟩
    · go_enter Tryd.func3, Tryd.ntmps3
      go_wp2_with fail
      refine (FR.out _ KB.out).mono ?_
      rintro e w1 ⟨rfl, rfl⟩
      go_wp2_with fail
      refine (LIVE.out _ KB.out).mono ?_
      rintro e wz ⟨rfl, hbz⟩
      have BZ : Hid (Below w.heap.size w wz) := Lib.hid (KB.out.trans (hbz.mono KB.out.size))
      clear hbz
      go_wp2_with fail
      go_ret
      exact ⟨rfl, BZ.out⟩
    · subst h0
      go_enter Tryd.func3, Tryd.ntmps3
      go_wp2_with fail
      refine (FR.out _ KB.out).mono ?_
      rintro e w1 ⟨rfl, rfl⟩
      go_wp2_with fail
      refine (LIVE.out _ KB.out).mono ?_
      rintro e wz ⟨rfl, hbz⟩
      have BZ : Hid (Below w.heap.size w wz) := Lib.hid (KB.out.trans (hbz.mono KB.out.size))
      clear hbz
      go_wp2_with fail
      go_ret
      exact ⟨rfl, BZ.out⟩
    · have g0 : ((n : Int) == 0) = false := beq_eq_false_iff_ne.mpr (by omega)
      have g1 : ¬ (n : Int) = 0 := by omega
      have g2 : (216 : Int) < (n : Int) := by omega
      go_enter Tryd.func3, Tryd.ntmps3
      go_wp2_with fail
      refine (FR.out _ KB.out).mono ?_
      rintro e w1 ⟨rfl, rfl⟩
      go_wp2_with fail
      refine (LIVE.out _ KB.out).mono ?_
      rintro e wz ⟨rfl, hbz⟩
      have BZ : Hid (Below w.heap.size w wz) := Lib.hid (KB.out.trans (hbz.mono KB.out.size))
      clear hbz
      go_wp2_with fail
      go_ret
      exact ⟨rfl, BZ.out⟩
end Sha
end Go.Proofs.YtajdpbbbocnfiaaDoor
namespace Go.Proofs.YtajdpbbbocnfiaaDoor
namespace Sha
open Go.RowKit Mem
structure Tn14 where
  b : BitVec 16
  a : BitVec 8
  y : BitVec 8
def ztn : Tn14 := ⟨0, 0, 0⟩
def tnC (t : Tn14) : Array Value := #[.int .u16 (t.b.toNat : Int), .int .u8 (t.a.toNat : Int), .int .u8 (t.y.toNat : Int)]
def SlTn (w : World) (v : Value) (l : List Tn14) : Prop :=
  ∃ a cap, v = .slice a l.length cap ∧ (l ≠ [] → ∃ b o, a = some ⟨b, o, none⟩ ∧ b < w.heap.size ∧ ∀ i, i < l.length → w.rangeAt b (o + i * 3) (tnC (l.getD i ztn)).toList)
theorem SlTn.below {w wr : World} {v : Value} {l : List Tn14} (h : SlTn w v l) (hb : Below w.heap.size w wr) : SlTn wr v l := by
  obtain ⟨a, cap, e, hr⟩ := h
  refine ⟨a, cap, e, fun hne => ?_⟩
  obtain ⟨b, o, ea, hlt, hc⟩ := hr hne
  exact ⟨b, o, ea, Nat.lt_of_lt_of_le hlt hb.size, fun i hi => range_block (hc i hi) (hb.block b hlt)⟩
theorem sltn_at {w : World} {a : Option Addr} {n c i : Nat} {l : List Tn14} (h : SlTn w (.slice a n c) l) (hn : n = l.length) (hi : i < n) : ∃ b o, a = some ⟨b, o, none⟩ ∧ w.rangeAt b (o + i * 3) (tnC (l.getD i ztn)).toList := by
  obtain ⟨a', c', e, hr⟩ := h
  obtain ⟨b, o, ea, _, hc⟩ := hr (by intro e0; subst e0; simp at hn; omega)
  injection e with e1 _ _
  subst e1
  exact ⟨b, o, ea, hc i (by omega)⟩
theorem infoTn : (Tryd.prog.info? 49).map (·.size) = some 3 := by kernel_rfl
theorem zeroTn (w : World) : (zeroValue 49).run Tryd.prog w = .ok (.agg (tnC ztn)) w := by kernel_rfl
theorem tnC_one (t : Tn14) : (tnC t).all (·.oneCell') = true := by simp [tnC, Value.oneCell']
theorem conv_tb (x : BitVec 16) (w : World) : (convert 47 3 (.int .u16 (x.toNat : Int))).run Tryd.prog w = .ok (.int .i64 (x.toNat : Int)) w := by
  have h := x.isLt
  have h2 : IntKind.i64.wrap (x.toNat : Int) = (x.toNat : Int) := by simp [IntKind.wrap, IntKind.bits, IntKind.signed]; omega
  go_simp
theorem conv_ta (x : BitVec 8) (w : World) : (convert 5 3 (.int .u8 (x.toNat : Int))).run Tryd.prog w = .ok (.int .i64 (x.toNat : Int)) w := by
  have h := x.isLt
  have h2 : IntKind.i64.wrap (x.toNat : Int) = (x.toNat : Int) := by simp [IntKind.wrap, IntKind.bits, IntKind.signed]; omega
  go_simp
theorem o_rem {P : Program} (t : TypeId) (x y : Operand) (a n : Nat) (h0 : 0 < n) (ha : a ≤ 9223372036854775807) (w : World) : (do eqGuard .rem t x y (.int .i64 (a : Int)) (.int .i64 (n : Int)); binOp .rem 3 (.int .i64 (a : Int)) (.int .i64 (n : Int)) : Sem Value).run P w = .ok (.int .i64 ((a % n : Nat) : Int)) w := by
  have hn : ¬ (n : Int) = 0 := by omega
  have hz : ((n : Int) == 0) = false := beq_eq_false_iff_ne.mpr hn
  have hl : a % n < n := Nat.mod_lt _ h0
  have hle : a % n ≤ a := Nat.mod_le _ _
  have he : (a : Int).tmod (n : Int) = ((a % n : Nat) : Int) := by
    rw [Int.tmod_eq_emod_of_nonneg (by omega)]; rfl
  have h2 : IntKind.i64.wrap ((a % n : Nat) : Int) = ((a % n : Nat) : Int) := by
    simp only [IntKind.wrap, IntKind.bits, IntKind.signed]
    simp
    omega
  go_simp
  omega
theorem ok_tam {m : Nat} {s : St6} (h : Ok6 m s) (n k : Nat) (x : List (BitVec 8)) (hn : n < s.n) (hk : k + x.length ≤ 256) : Ok6 m (stTamper s (n * 256 + k) x) := ok_tamper h n k x hn hk
theorem way_len {B key : List (BitVec 8)} {p x : Nat} {root : RefV} (h0 : 1 ≤ p) (h1 : p ≤ 216) (hx : x < p) (hB : B.length = (2 + 2 * itn p) * 256) (hr : plOk root = true) (h : (wayT B key p root (x : Int)).2.2 = 0) : (wayT B key p root (x : Int)).2.1.length = 256 := by
  have hb := itn_big p h0 h1
  unfold wayT at h ⊢
  rw [if_neg (by omega), Int.toNat_natCast] at h ⊢
  rcases wayG_err (key := key) h0 h1 hx hB hr (topn p) (Nat.le_refl _) with ⟨g1, g2⟩ | g
  · rw [if_neg (fun a => a g1)] at h ⊢
    rcases fetch_err (key := key) (i := x) hB (by omega) g2 with ⟨f1, f2⟩ | f
    · rw [if_neg (fun a => a f1)]; exact f2
    · rw [if_pos (by rw [f]; decide), f] at h; cases h
  · rw [if_pos (by rw [g]; decide), g] at h; cases h
end Sha
end Go.Proofs.YtajdpbbbocnfiaaDoor
