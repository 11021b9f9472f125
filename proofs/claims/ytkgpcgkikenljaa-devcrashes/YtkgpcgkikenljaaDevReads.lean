/- Layer 6, DevReads: what was written last is read, whether it came by then or not. -/
import Derived.Test.YtkgpcgkikenljaaDevPlays
namespace Go.Proofs.Ytkgpcgkikenljaa
namespace Sha
open Go.RowKit Mem
set_option maxRecDepth 100000 in
theorem blk_laid {b x : List (BitVec 8)} {n p k : Nat} (hb : b.length = n * 256) (hx : x.length = 256) (hp : p < n) (hk : k < n) : blkOf (laidL b (p * 256) x) k = if p = k then x else blkOf b k := by
  have hpn : p * 256 + 256 ≤ n * 256 := by omega
  have hkn : k * 256 + 256 ≤ n * 256 := by omega
  by_cases h : p = k
  · rw [if_pos h, blkOf, laidL, ← h, List.append_assoc, List.drop_left' (by simp; omega), List.take_left' hx]
  · rw [if_neg h]
    apply List.ext_getElem?
    intro i
    unfold blkOf laidL
    rw [List.getElem?_take, List.getElem?_take]
    by_cases hi : i < 256
    · rw [if_pos hi, if_pos hi, List.getElem?_drop, List.getElem?_drop]
      by_cases hlt : k * 256 + i < p * 256
      · rw [List.append_assoc, List.getElem?_append_left (by simp; omega), List.getElem?_take, if_pos hlt]
      · have hge : p * 256 + 256 ≤ k * 256 + i := by omega
        have e1 : (List.take (p * 256) b ++ x).length = p * 256 + 256 := by simp [hx]; omega
        rw [List.getElem?_append_right (by rw [e1]; exact hge), e1, List.getElem?_drop, hx]
        congr 1
        omega
    · rw [if_neg hi, if_neg hi]
theorem readTo_flush {n k : Nat} {l : List (Nat × List (BitVec 8))} {b : List (BitVec 8)} (h : WfP n l) (hb : b.length = n * 256) (hk : k < n) : ∀ j, j ≤ l.length → blkOf (flushTo l b j) k = readTo k (blkOf b k) l j
  | 0, _ => rfl
  | j + 1, hj => by
    obtain ⟨h1, h2⟩ := h j (by omega)
    rw [flushTo, readTo, blk_laid (flushTo_length h hb j (by omega)) h2 h1 hk, readTo_flush h hb hk j (by omega)]
theorem read_flush {m : Nat} {s : St6} (h : Ok6 m s) {k : Nat} (hk : k < s.n) : stRead (stFlush s) k = stRead s k := by
  show readTo k (blkOf (flushTo s.w s.b s.w.length) k) [] 0 = _
  rw [readTo, readTo_flush h.wf h.b hk _ (Nat.le_refl _)]
  rfl
theorem readTo_pre {k : Nat} {d : List (BitVec 8)} {l r : List (Nat × List (BitVec 8))} : ∀ j, j ≤ l.length → readTo k d (l ++ r) j = readTo k d l j
  | 0, _ => rfl
  | j + 1, hj => by
    have e : (l ++ r).getD j (0, []) = l.getD j (0, []) := by rw [List.getD_eq_getElem?_getD, List.getD_eq_getElem?_getD, List.getElem?_append_left (by omega)]
    rw [readTo, readTo, e, readTo_pre j (by omega)]
theorem read_write {s : St6} {n k : Nat} {x : List (BitVec 8)} : stRead (stWrite s n x) k = if n = k then x else stRead s k := by
  show readTo k (blkOf s.b k) (s.w ++ [(n, x)]) (s.w ++ [(n, x)]).length = _
  rw [List.length_append, List.length_singleton, readTo, readTo_pre _ (Nat.le_refl _)]
  have e : (s.w ++ [(n, x)]).getD s.w.length (0, []) = (n, x) := by rw [List.getD_eq_getElem?_getD, List.getElem?_append_right (Nat.le_refl _)]; simp
  rw [e]
  rfl
theorem crash_none {s : St6} (h : s.w = []) (keep : Nat) (torn parts : Int) (k : Nat) : stRead (stCrash s keep torn parts) k = stRead s k := by
  unfold stRead stCrash
  simp only [h, List.length_nil, crashTo, readTo]
/-- What was written last is read: of each block, bytes that are alike. -/
def Has (s : St6) (H : List (BitVec 8)) : Prop := ∀ k, k < 8 → stRead s k = List.replicate 256 (H.getD k 0)
theorem has_new : Has (stNew 8) (List.replicate 8 0) := fun k hk => by
  show readTo k (blkOf (List.replicate (8 * 256) 0) k) [] 0 = _
  rw [readTo, blkOf, List.drop_replicate, List.take_replicate, List.getD_eq_getElem?_getD, List.getElem?_replicate, if_pos hk]
  congr 1
  omega
theorem has_flush {m : Nat} {s : St6} {H : List (BitVec 8)} (h : Ok6 m s) (hn : s.n = 8) (hh : Has s H) : Has (stFlush s) H := fun k hk => by rw [read_flush h (by omega)]; exact hh k hk
theorem has_crash {s : St6} {H : List (BitVec 8)} (hh : Has (stFlush s) H) (keep : Nat) (torn parts : Int) : Has (stCrash (stFlush s) keep torn parts) H := fun k hk => by rw [crash_none rfl]; exact hh k hk
theorem has_write {s : St6} {H : List (BitVec 8)} (hh : Has s H) (hl : H.length = 8) (n : Nat) (x : BitVec 8) (hn : n < 8) : Has (stWrite s n (List.replicate 256 x)) (H.set n x) := fun k hk => by
  rw [read_write]
  by_cases h : n = k
  · rw [if_pos h, ← h]
    simp [List.getD_eq_getElem?_getD, hl, hn]
  · rw [if_neg h, hh k hk]
    simp [List.getD_eq_getElem?_getD, h]
theorem low_any (z : Int) (m : Nat) (hm : m < 100) : ∃ n : Nat, n ≤ m ∧ bits .and .i64 z (m : Int) = (n : Int) := by
  refine ⟨(BitVec.ofInt 64 z &&& BitVec.ofInt 64 (m : Int)).toNat, ?_, ?_⟩
  · rw [BitVec.toNat_and]
    refine Nat.le_trans Nat.and_le_right ?_
    simp
    omega
  · have h : (BitVec.ofInt 64 z &&& BitVec.ofInt 64 (m : Int)).toNat ≤ m := by
      rw [BitVec.toNat_and]
      refine Nat.le_trans Nat.and_le_right ?_
      simp
      omega
    show IntKind.i64.wrap (((BitVec.ofInt 64 z &&& BitVec.ofInt 64 (m : Int)).toNat : Nat) : Int) = _
    exact i64_id _ (by omega) (by omega)
/-- One store; all its memory was made since w, none of it is E. -/
structure Solo (R : StAcc) (b : Nat) (E : Foot) (w : World) (s : St6) (wr : World) : Prop where
  f : ∃ F, R F b wr s ∧ ∀ k, F k → w.heap.size ≤ k ∧ ¬ E k
  e : ∀ k, E k → k < wr.heap.size
  b : Below w.heap.size w wr
section
variable {R : StAcc} {b : Nat} {E : Foot} {w wr wx : World} {s s' : St6}
theorem Solo.add (C : DevC R) (h : Solo R b E w s wr) (hb : Below wr.heap.size wr wx) (E' : Foot) (hE : ∀ k, E' k → E k ∨ (wr.heap.size ≤ k ∧ k < wx.heap.size)) : Solo R b E' w s wx := by
  obtain ⟨F, h1, h2⟩ := h.f
  exact ⟨⟨F, C.below h1 hb, fun k hk => ⟨(h2 k hk).1, fun he => (hE k he).elim (h2 k hk).2 (fun hw => by have := C.lt h1 k hk; omega)⟩⟩, fun k hk => (hE k hk).elim (fun he => Nat.lt_of_lt_of_le (h.e k he) hb.size) (fun hw => hw.2), h.b.trans (hb.mono h.b.size)⟩
theorem Solo.below (C : DevC R) (h : Solo R b E w s wr) (hb : Below wr.heap.size wr wx) : Solo R b E w s wx := h.add C hb E fun _ hk => .inl hk
theorem Solo.less (h : Solo R b E w s wr) (E' : Foot) (hE : ∀ k, E' k → E k) : Solo R b E' w s wr := by
  obtain ⟨F, h1, h2⟩ := h.f
  exact ⟨⟨F, h1, fun k hk => ⟨(h2 k hk).1, fun he => (h2 k hk).2 (hE k he)⟩⟩, fun k hk => h.e k (hE k hk), h.b⟩
theorem Solo.kept (h : Solo R b E w s wr) (hb : Below wr.heap.size wr wx) : Kept E wr wx := ⟨hb.size, fun k hk => hb.block k (h.e k hk)⟩
theorem Solo.call {P : Program} {f : FuncId} {vs : Array Value} {v : Value} (h : Solo R b E w s wr) (k : ∀ F, R F b wr s → Calls P f vs wr fun e w' => e = .returned v ∧ StEnd R F b wr s' w') :
    Calls P f vs wr fun e w' => e = .returned v ∧ Solo R b E w s' w' ∧ Kept E wr w' := by
  obtain ⟨F, h1, h2⟩ := h.f
  have hb := h.b.size
  refine (k F h1).mono ?_
  rintro e w' ⟨rfl, hs⟩
  obtain ⟨⟨F', h3, h4⟩, h5⟩ := hs
  exact ⟨rfl, ⟨⟨F', h3, fun y hy => (h4 y hy).elim (h2 y) (fun hw => ⟨by omega, fun he => by have := h.e y he; omega⟩)⟩, fun y hy => Nat.lt_of_lt_of_le (h.e y hy) h5.size, h5.below h.b (fun y hy => (h2 y hy).1) hb⟩, ⟨h5.size, fun y hy => h5.block y (h.e y hy) (fun hF => (h2 y hF).2 hy)⟩⟩
/-- A block of E was written to. -/
theorem Solo.poke (C : DevC R) (h : Solo R b E w s wr) {q : Nat} (hq : E q) (hw : w.heap.size ≤ q) (ho : ∀ k, k ≠ q → wx.heap[k]? = wr.heap[k]?) (hk : ∀ B a, Below B a wr → B ≤ q → Below B a wx) : Solo R b E w s wx := by
  obtain ⟨F, h1, h2⟩ := h.f
  have hs := (hk q wr (Below.refl _ _) (Nat.le_refl _)).size
  exact ⟨⟨F, C.keep h1 hs (fun k hF _ => ho k (fun e => (h2 k hF).2 (e ▸ hq))), h2⟩, fun k hE => Nat.lt_of_lt_of_le (h.e k hE) hs, hk _ _ h.b hw⟩
end
/-- The store, and what it should have, by the law's own list. -/
structure RdI (R : StAcc) (b h : Nat) (w : World) (m : Nat) (s : St6) (H : List (BitVec 8)) (wr : World) : Prop where
  so : Solo R b (fun k => k = h) w s wr
  at' : At wr h (u8s H).toArray 50
  hl : H.length = 8
  hb : w.heap.size ≤ h
  ok : Ok6 m s
  n : s.n = 8
  has : Has s H
theorem RdI.below {R : StAcc} {b h m : Nat} {w wr wx : World} {s : St6} {H : List (BitVec 8)} (C : DevC R) (i : RdI R b h w m s H wr) (hb : Below wr.heap.size wr wx) : RdI R b h w m s H wx :=
  ⟨i.so.below C hb, i.at'.below hb i.at'.lt, i.hl, i.hb, i.ok, i.n, i.has⟩
theorem info8b : (Try.prog.info? 50).map (·.size) = some 8 := by kernel_rfl
set_option maxRecDepth 100000 in
set_option maxHeartbeats 8000000 in
theorem reads6_law {R : StAcc} (C : DevC R) (l : List Step6) (vl : Value) (w : World) (hl : SlS6 w vl l) (ll : l.length ≤ 9223372036854775807) (hs : ∀ x ∈ l, goodS6 x) :
    Calls Try.prog 4 #[vl] w fun e w' => e = .returned (.bool true) ∧ Below w.heap.size w w' := by
  have CC := Lib.hid C
  have ALV := Lib.hid (fun wx => alive6_any C wx)
  have NG := Lib.hid (C.new 8 w (by decide) (by decide))
  have SH := Lib.hid (fun wx => short6_any l vl wx); have HL := Lib.hid hl; have HS := Lib.hid hs; have LL := Lib.hid ll
  clear C hl ll hs
  go_enter Try.func4, Try.ntmps4
  go_wp2_with fail
  refine NG.out.mono ?_
  rintro e w1 ⟨bs, F, rfl, hR, hF, hb1⟩
  have hRl := CC.out.lt hR
  have a2 : At (w1.alloc (.cells (u8s (List.replicate 8 0)).toArray 50)) w1.heap.size (u8s (List.replicate 8 0)).toArray 50 := at_new w1 _ _
  have b2 : Below w1.heap.size w1 (w1.alloc (.cells (u8s (List.replicate 8 0)).toArray 50)) := (Below.refl _ _).alloc (Nat.le_refl _) _
  have I2 : Hid (RdI R bs w1.heap.size w 0 (stNew 8) (List.replicate 8 0) (w1.alloc (.cells (u8s (List.replicate 8 0)).toArray 50))) := ⟨⟨⟨F, CC.out.below hR b2, fun k hk => ⟨hF k hk, by have := hRl k hk; omega⟩⟩, fun k hk => by subst hk; simp, hb1.trans (b2.mono hb1.size)⟩, a2, List.length_replicate, hb1.size, ok_new 8 (by decide) (by decide), rfl, has_new⟩
  have hz : (u8s (List.replicate 8 (0 : BitVec 8))).toArray = #[.int .u8 0, .int .u8 0, .int .u8 0, .int .u8 0, .int .u8 0, .int .u8 0, .int .u8 0, .int .u8 0] := rfl
  rw [hz] at I2
  clear hR hF hb1 NG hRl a2 b2 hz
  go_wp2_with fail
  refine (SH.out _ (HL.out.below I2.out.so.b) LL.out).mono ?_
  rintro e w' ⟨⟨v, rfl, hst0⟩, rfl⟩
  have hst := hst0 w HL.out
  clear hst0
  have IN := Lib.hid (fun j (hj : j < (l.take 60).length) => (HS.out ((l.take 60).getD j default) (by rw [List.getD_eq_getElem?_getD, List.getElem?_eq_getElem hj]; exact List.mem_of_mem_take (List.getElem_mem hj)) : goodS6 ((l.take 60).getD j default)))
  have h60 : (l.take 60).length ≤ 60 := by simp; omega
  obtain ⟨L, hL⟩ : ∃ L, L = l.take 60 := ⟨_, rfl⟩
  rw [← hL] at hst IN h60
  have ST := Lib.hid hst
  obtain ⟨al, capl, rfl, _, _⟩ := hst
  obtain ⟨ln, hn⟩ : ∃ n, n = L.length := ⟨_, rfl⟩
  rw [← hn] at ST IN h60 ⊢
  have LN := Lib.hid hn
  obtain ⟨q, hq⟩ : ∃ q, q = w1.heap.size := ⟨_, rfl⟩
  rw [← hq] at I2 ⊢
  clear hn hL SH HL HS LL hq
  generalize w1.alloc (.cells #[.int .u8 0, .int .u8 0, .int .u8 0, .int .u8 0, .int .u8 0, .int .u8 0, .int .u8 0, .int .u8 0] 50) = w3 at *
  go_wp2_with fail
  go_loopw [25] (fun i wr => ∃ j : Nat, j ≤ ln ∧ i = .int .i64 j ∧ ∃ s H, RdI R bs q w j s H wr) (fun i _ => ln - (intOf i).toNat)
  case atStart => exact ⟨0, by omega, rfl, _, _, I2.out⟩
  case round =>
    clear I2
    obtain ⟨j, hj, rfl, s, H, hI⟩ := hrel
    by_cases hlt : j < ln
    · have hlt' : (j : Int) < (ln : Int) := by omega
      obtain ⟨b1, o1, ha1, cx⟩ := slS6_at (i := j) (ST.out.below hI.so.b) (by rw [← LN.out]; exact hlt)
      have hin := IN.out j hlt
      obtain ⟨x, hx9⟩ : ∃ x, x = L.getD j default := ⟨_, rfl⟩
      rw [← hx9] at cx hin
      have c0 : wr.cell? ⟨b1, o1 + j * 5, none⟩ = some (.int .u8 (B8 x.k)) := by rw [show o1 + j * 5 = o1 + (5 * j + 0) by omega]; exact cx 0 (by decide)
      have c1 : wr.cell? ⟨b1, o1 + j * 5 + 1, none⟩ = some (.int .i64 x.n) := by rw [show o1 + j * 5 + 1 = o1 + (5 * j + 1) by omega]; exact cx 1 (by decide)
      have c2 : wr.cell? ⟨b1, o1 + j * 5 + 2, none⟩ = some (.int .i64 x.a) := by rw [show o1 + j * 5 + 2 = o1 + (5 * j + 2) by omega]; exact cx 2 (by decide)
      have c3 : wr.cell? ⟨b1, o1 + j * 5 + 3, none⟩ = some (.int .u8 (B8 x.x)) := by rw [show o1 + j * 5 + 3 = o1 + (5 * j + 3) by omega]; exact cx 3 (by decide)
      have c4 : wr.cell? ⟨b1, o1 + j * 5 + 4, none⟩ = some (.int .u64 (x.q : Int)) := by rw [show o1 + j * 5 + 4 = o1 + (5 * j + 4) by omega]; exact cx 4 (by decide)
      subst ha1
      have b3 : Below wr.heap.size wr (wr.alloc (.cells (stepC6 x) 39)) := (Below.refl _ _).alloc (Nat.le_refl _) _
      have k0 := B8_lo x.k
      have k1 := B8_hi x.k
      obtain ⟨n, hn8, hlow⟩ := low_any x.n 7 (by decide)
      have hlow : bits .and .i64 x.n 7 = (n : Int) := hlow
      have nbx : ¬ wr.heap.size = q := by have := hI.at'.lt; omega
      have GX := Lib.hid hin; have A3 := Lib.hid (at_new wr (stepC6 x) 39); have Q4 := Lib.hid (hI.at'.below b3 hI.at'.lt); have S4 := Lib.hid (hI.so.add CC.out b3 (fun k => k = q ∨ k = wr.heap.size) (fun k hk => hk.imp id (fun h => by subst h; exact ⟨Nat.le_refl _, by simp⟩)))
      have OKJ := Lib.hid hI.ok; have SN := Lib.hid hI.n; have HAS := Lib.hid hI.has; have HLN := Lib.hid hI.hl; have HBQ := Lib.hid hI.hb
      have h8 : B8 x.k % 8 = 0 ∨ B8 x.k % 8 = 1 ∨ B8 x.k % 8 = 2 ∨ B8 x.k % 8 = 3 ∨ B8 x.k % 8 = 4 ∨ B8 x.k % 8 = 5 ∨ B8 x.k % 8 = 6 ∨ B8 x.k % 8 = 7 := by omega
      clear cx hin hx9 b3 hI nbx
      rcases h8 with h8 | h8 | h8 | h8 | h8 | h8 | h8 | h8
      · go_wp2_with (refine wpList_store_new (by rfl) 39 _ _ (by rfl) (by rfl) (stepC6 x) _ _ (by rfl) (by rfl) (by exact infoStep6) (by rfl) (stepC6_one x) ?_; clear c0 c1 c2 c3 c4; generalize wr.alloc (.cells (stepC6 x) 39) = w4 at *; generalize wr.heap.size = bx at *; have d0 : w4.cell? ⟨bx, 0, none⟩ = some (.int .u8 (B8 x.k)) := A3.out.cell' 0 rfl; have d1 : w4.cell? ⟨bx, 1, none⟩ = some (.int .i64 x.n) := A3.out.cell' 1 rfl; have d3 : w4.cell? ⟨bx, 3, none⟩ = some (.int .u8 (B8 x.x)) := A3.out.cell' 3 rfl)
        refine (block_any x.x w4).mono ?_
        rintro e w5 ⟨g, rfl, ha, hg, hb5⟩
        have S5 := Lib.hid (S4.out.below CC.out hb5); have A5 := Lib.hid (A3.out.below hb5 A3.out.lt); have Q5 := Lib.hid (Q4.out.below hb5 Q4.out.lt); have G5 := Lib.hid (at_sl ha rfl)
        rw [List.length_replicate] at G5 ⊢
        clear ha hg hb5 S4 A3 Q4 d0 d1 d3
        go_wp2_with fail
        refine (Solo.call S5.out (fun F h => CC.out.write n (List.replicate 256 x.x) _ w5 h (OKJ.out.mono (by omega)) G5.out (by rw [SN.out]; omega) List.length_replicate)).mono ?_
        rintro e w6 ⟨rfl, hs6, hk6⟩
        have S6 := Lib.hid hs6; have A6 := Lib.hid (A5.out.kept hk6 (.inr rfl)); have Q6 := Lib.hid (Q5.out.kept hk6 (.inl rfl))
        have e3 : w6.cell? ⟨bx, 3, none⟩ = some (.int .u8 (B8 x.x)) := A6.out.cell' 3 rfl
        clear hs6 hk6 S5 A5 Q5 G5
        go_wp2_with (refine Mem.wpList_store_one (by rfl) 5 _ _ (by rfl) (by rfl) q n (.int .u8 (B8 x.x)) (by rfl) (by rfl) (by rfl) infoB _ 50 Q6.out (by rw [List.size_toArray, u8s_length, HLN.out]; omega) ?_; intro w7 ha ho hk; rw [show (.int .u8 (B8 x.x) : Value) = .int .u8 (x.x.toNat : Int) from rfl, u8s_set] at ha; have Q7 := Lib.hid ha; have S7 := Lib.hid (S6.out.poke CC.out (q := q) (.inl rfl) HBQ.out ho hk); clear ha ho hk e3 S6 Q6 A6)
        obtain ⟨s2, hs2⟩ : ∃ s2, s2 = stWrite s n (List.replicate 256 x.x) := ⟨_, rfl⟩
        obtain ⟨H2, hH2⟩ : ∃ H2, H2 = H.set n x.x := ⟨_, rfl⟩
        have I7 : Hid (RdI R bs q w (j + 1) s2 H2 w7) := (by rw [hs2, hH2]; exact ⟨S7.out.less _ (fun k hk => .inl hk), Q7.out, by rw [List.length_set]; exact HLN.out, HBQ.out, ok_write OKJ.out n _ (by rw [SN.out]; omega) List.length_replicate, SN.out, has_write HAS.out HLN.out n x.x (by omega)⟩)
        clear S7 Q7 hs2 hH2
        go_wp2_with fail
        go_loopw [62] (fun i wy => ∃ j2 : Nat, j2 ≤ 8 ∧ i = .int .i64 j2 ∧ RdI R bs q w (j + 1) s2 H2 wy) (fun i _ => 8 - (intOf i).toNat)
        case atStart => exact ⟨0, by omega, rfl, I7.out⟩
        case round =>
          clear I7
          obtain ⟨j2, hj2, rfl, hJ⟩ := hrel
          by_cases hlt2 : j2 < 8
          · have hlt2' : (j2 : Int) < 8 := by omega
            have J0 := Lib.hid hJ
            obtain ⟨F9, f9, _⟩ := hJ.so.f
            clear hJ
            go_wp2_with fail
            refine (CC.out.read j2 wr f9 (J0.out.ok.mono (by omega)) (by rw [J0.out.n]; exact hlt2)).mono ?_
            rintro e w8 ⟨v8, rfl, hs8, hb8⟩
            rw [J0.out.has j2 hlt2] at hs8
            obtain ⟨a8, c8, rfl⟩ := hs8.hd
            rw [List.length_replicate] at hs8 ⊢
            have J8 := Lib.hid (J0.out.below CC.out hb8)
            have S8 := Lib.hid hs8.sl
            have dq : w8.cell? ⟨q, j2, none⟩ = some (.int .u8 (B8 (H2.getD j2 0))) := by rw [J8.out.at'.cell, List.getElem?_toArray]; exact u8s_get _ _ (by rw [J8.out.hl]; exact hlt2)
            obtain ⟨y, hy⟩ : ∃ y, y = H2.getD j2 0 := ⟨_, rfl⟩
            rw [← hy] at dq S8
            clear hs8 hb8 J0 f9 hy
            go_wp2_with fail
            refine (block_any y w8).mono ?_
            rintro e w9 ⟨g9, rfl, ha, hg, hb9⟩
            have J9 := Lib.hid (J8.out.below CC.out hb9)
            have S9 := Lib.hid (S8.out.below hb9)
            have T9 := Lib.hid (at_sl ha rfl)
            rw [List.length_replicate] at T9 ⊢
            clear ha hg hb9 J8 S8 dq
            go_wp2_with fail
            refine (same_any (List.replicate 256 y) (List.replicate 256 y) _ _ w9 S9.out T9.out (by rw [List.length_replicate]; decide) (by rw [List.length_replicate]; decide)).mono ?_
            rintro e w10 ⟨rfl, hb10⟩
            rw [sameB_self]
            have J10 := Lib.hid (J9.out.below CC.out hb10)
            clear hb10 J9 S9 T9
            go_wp2_with fail
            go_roundw
            case rel => exact ⟨j2 + 1, by omega, by go_num, J10.out⟩
            case measure => simp [intOf]; omega
          · have hge : ¬ (j2 : Int) < 8 := by omega
            have J0 := Lib.hid hJ
            clear hJ hlt2
            go_wp2_with fail
            go_roundw
            case rel => exact ⟨j + 1, by omega, by go_num, s2, H2, J0.out⟩
            case measure => simp [intOf]; omega
      · go_wp2_with (refine wpList_store_new (by rfl) 39 _ _ (by rfl) (by rfl) (stepC6 x) _ _ (by rfl) (by rfl) (by exact infoStep6) (by rfl) (stepC6_one x) ?_; clear c0 c1 c2 c3 c4; generalize wr.alloc (.cells (stepC6 x) 39) = w4 at *; generalize wr.heap.size = bx at *; have d0 : w4.cell? ⟨bx, 0, none⟩ = some (.int .u8 (B8 x.k)) := A3.out.cell' 0 rfl; have d1 : w4.cell? ⟨bx, 1, none⟩ = some (.int .i64 x.n) := A3.out.cell' 1 rfl; have d3 : w4.cell? ⟨bx, 3, none⟩ = some (.int .u8 (B8 x.x)) := A3.out.cell' 3 rfl)
        refine (block_any x.x w4).mono ?_
        rintro e w5 ⟨g, rfl, ha, hg, hb5⟩
        have S5 := Lib.hid (S4.out.below CC.out hb5); have A5 := Lib.hid (A3.out.below hb5 A3.out.lt); have Q5 := Lib.hid (Q4.out.below hb5 Q4.out.lt); have G5 := Lib.hid (at_sl ha rfl)
        rw [List.length_replicate] at G5 ⊢
        clear ha hg hb5 S4 A3 Q4 d0 d1 d3
        go_wp2_with fail
        refine (Solo.call S5.out (fun F h => CC.out.write n (List.replicate 256 x.x) _ w5 h (OKJ.out.mono (by omega)) G5.out (by rw [SN.out]; omega) List.length_replicate)).mono ?_
        rintro e w6 ⟨rfl, hs6, hk6⟩
        have S6 := Lib.hid hs6; have A6 := Lib.hid (A5.out.kept hk6 (.inr rfl)); have Q6 := Lib.hid (Q5.out.kept hk6 (.inl rfl))
        have e3 : w6.cell? ⟨bx, 3, none⟩ = some (.int .u8 (B8 x.x)) := A6.out.cell' 3 rfl
        clear hs6 hk6 S5 A5 Q5 G5
        go_wp2_with (refine Mem.wpList_store_one (by rfl) 5 _ _ (by rfl) (by rfl) q n (.int .u8 (B8 x.x)) (by rfl) (by rfl) (by rfl) infoB _ 50 Q6.out (by rw [List.size_toArray, u8s_length, HLN.out]; omega) ?_; intro w7 ha ho hk; rw [show (.int .u8 (B8 x.x) : Value) = .int .u8 (x.x.toNat : Int) from rfl, u8s_set] at ha; have Q7 := Lib.hid ha; have S7 := Lib.hid (S6.out.poke CC.out (q := q) (.inl rfl) HBQ.out ho hk); clear ha ho hk e3 S6 Q6 A6)
        obtain ⟨s2, hs2⟩ : ∃ s2, s2 = stWrite s n (List.replicate 256 x.x) := ⟨_, rfl⟩
        obtain ⟨H2, hH2⟩ : ∃ H2, H2 = H.set n x.x := ⟨_, rfl⟩
        have I7 : Hid (RdI R bs q w (j + 1) s2 H2 w7) := (by rw [hs2, hH2]; exact ⟨S7.out.less _ (fun k hk => .inl hk), Q7.out, by rw [List.length_set]; exact HLN.out, HBQ.out, ok_write OKJ.out n _ (by rw [SN.out]; omega) List.length_replicate, SN.out, has_write HAS.out HLN.out n x.x (by omega)⟩)
        clear S7 Q7 hs2 hH2
        go_wp2_with fail
        go_loopw [62] (fun i wy => ∃ j2 : Nat, j2 ≤ 8 ∧ i = .int .i64 j2 ∧ RdI R bs q w (j + 1) s2 H2 wy) (fun i _ => 8 - (intOf i).toNat)
        case atStart => exact ⟨0, by omega, rfl, I7.out⟩
        case round =>
          clear I7
          obtain ⟨j2, hj2, rfl, hJ⟩ := hrel
          by_cases hlt2 : j2 < 8
          · have hlt2' : (j2 : Int) < 8 := by omega
            have J0 := Lib.hid hJ
            obtain ⟨F9, f9, _⟩ := hJ.so.f
            clear hJ
            go_wp2_with fail
            refine (CC.out.read j2 wr f9 (J0.out.ok.mono (by omega)) (by rw [J0.out.n]; exact hlt2)).mono ?_
            rintro e w8 ⟨v8, rfl, hs8, hb8⟩
            rw [J0.out.has j2 hlt2] at hs8
            obtain ⟨a8, c8, rfl⟩ := hs8.hd
            rw [List.length_replicate] at hs8 ⊢
            have J8 := Lib.hid (J0.out.below CC.out hb8)
            have S8 := Lib.hid hs8.sl
            have dq : w8.cell? ⟨q, j2, none⟩ = some (.int .u8 (B8 (H2.getD j2 0))) := by rw [J8.out.at'.cell, List.getElem?_toArray]; exact u8s_get _ _ (by rw [J8.out.hl]; exact hlt2)
            obtain ⟨y, hy⟩ : ∃ y, y = H2.getD j2 0 := ⟨_, rfl⟩
            rw [← hy] at dq S8
            clear hs8 hb8 J0 f9 hy
            go_wp2_with fail
            refine (block_any y w8).mono ?_
            rintro e w9 ⟨g9, rfl, ha, hg, hb9⟩
            have J9 := Lib.hid (J8.out.below CC.out hb9)
            have S9 := Lib.hid (S8.out.below hb9)
            have T9 := Lib.hid (at_sl ha rfl)
            rw [List.length_replicate] at T9 ⊢
            clear ha hg hb9 J8 S8 dq
            go_wp2_with fail
            refine (same_any (List.replicate 256 y) (List.replicate 256 y) _ _ w9 S9.out T9.out (by rw [List.length_replicate]; decide) (by rw [List.length_replicate]; decide)).mono ?_
            rintro e w10 ⟨rfl, hb10⟩
            rw [sameB_self]
            have J10 := Lib.hid (J9.out.below CC.out hb10)
            clear hb10 J9 S9 T9
            go_wp2_with fail
            go_roundw
            case rel => exact ⟨j2 + 1, by omega, by go_num, J10.out⟩
            case measure => simp [intOf]; omega
          · have hge : ¬ (j2 : Int) < 8 := by omega
            have J0 := Lib.hid hJ
            clear hJ hlt2
            go_wp2_with fail
            go_roundw
            case rel => exact ⟨j + 1, by omega, by go_num, s2, H2, J0.out⟩
            case measure => simp [intOf]; omega
      · go_wp2_with (refine wpList_store_new (by rfl) 39 _ _ (by rfl) (by rfl) (stepC6 x) _ _ (by rfl) (by rfl) (by exact infoStep6) (by rfl) (stepC6_one x) ?_; clear c0 c1 c2 c3 c4; generalize wr.alloc (.cells (stepC6 x) 39) = w4 at *; generalize wr.heap.size = bx at *; have d0 : w4.cell? ⟨bx, 0, none⟩ = some (.int .u8 (B8 x.k)) := A3.out.cell' 0 rfl; have d1 : w4.cell? ⟨bx, 1, none⟩ = some (.int .i64 x.n) := A3.out.cell' 1 rfl; have d3 : w4.cell? ⟨bx, 3, none⟩ = some (.int .u8 (B8 x.x)) := A3.out.cell' 3 rfl)
        refine (block_any x.x w4).mono ?_
        rintro e w5 ⟨g, rfl, ha, hg, hb5⟩
        have S5 := Lib.hid (S4.out.below CC.out hb5); have A5 := Lib.hid (A3.out.below hb5 A3.out.lt); have Q5 := Lib.hid (Q4.out.below hb5 Q4.out.lt); have G5 := Lib.hid (at_sl ha rfl)
        rw [List.length_replicate] at G5 ⊢
        clear ha hg hb5 S4 A3 Q4 d0 d1 d3
        go_wp2_with fail
        refine (Solo.call S5.out (fun F h => CC.out.write n (List.replicate 256 x.x) _ w5 h (OKJ.out.mono (by omega)) G5.out (by rw [SN.out]; omega) List.length_replicate)).mono ?_
        rintro e w6 ⟨rfl, hs6, hk6⟩
        have S6 := Lib.hid hs6; have A6 := Lib.hid (A5.out.kept hk6 (.inr rfl)); have Q6 := Lib.hid (Q5.out.kept hk6 (.inl rfl))
        have e3 : w6.cell? ⟨bx, 3, none⟩ = some (.int .u8 (B8 x.x)) := A6.out.cell' 3 rfl
        clear hs6 hk6 S5 A5 Q5 G5
        go_wp2_with (refine Mem.wpList_store_one (by rfl) 5 _ _ (by rfl) (by rfl) q n (.int .u8 (B8 x.x)) (by rfl) (by rfl) (by rfl) infoB _ 50 Q6.out (by rw [List.size_toArray, u8s_length, HLN.out]; omega) ?_; intro w7 ha ho hk; rw [show (.int .u8 (B8 x.x) : Value) = .int .u8 (x.x.toNat : Int) from rfl, u8s_set] at ha; have Q7 := Lib.hid ha; have S7 := Lib.hid (S6.out.poke CC.out (q := q) (.inl rfl) HBQ.out ho hk); clear ha ho hk e3 S6 Q6 A6)
        obtain ⟨s2, hs2⟩ : ∃ s2, s2 = stWrite s n (List.replicate 256 x.x) := ⟨_, rfl⟩
        obtain ⟨H2, hH2⟩ : ∃ H2, H2 = H.set n x.x := ⟨_, rfl⟩
        have I7 : Hid (RdI R bs q w (j + 1) s2 H2 w7) := (by rw [hs2, hH2]; exact ⟨S7.out.less _ (fun k hk => .inl hk), Q7.out, by rw [List.length_set]; exact HLN.out, HBQ.out, ok_write OKJ.out n _ (by rw [SN.out]; omega) List.length_replicate, SN.out, has_write HAS.out HLN.out n x.x (by omega)⟩)
        clear S7 Q7 hs2 hH2
        go_wp2_with fail
        go_loopw [62] (fun i wy => ∃ j2 : Nat, j2 ≤ 8 ∧ i = .int .i64 j2 ∧ RdI R bs q w (j + 1) s2 H2 wy) (fun i _ => 8 - (intOf i).toNat)
        case atStart => exact ⟨0, by omega, rfl, I7.out⟩
        case round =>
          clear I7
          obtain ⟨j2, hj2, rfl, hJ⟩ := hrel
          by_cases hlt2 : j2 < 8
          · have hlt2' : (j2 : Int) < 8 := by omega
            have J0 := Lib.hid hJ
            obtain ⟨F9, f9, _⟩ := hJ.so.f
            clear hJ
            go_wp2_with fail
            refine (CC.out.read j2 wr f9 (J0.out.ok.mono (by omega)) (by rw [J0.out.n]; exact hlt2)).mono ?_
            rintro e w8 ⟨v8, rfl, hs8, hb8⟩
            rw [J0.out.has j2 hlt2] at hs8
            obtain ⟨a8, c8, rfl⟩ := hs8.hd
            rw [List.length_replicate] at hs8 ⊢
            have J8 := Lib.hid (J0.out.below CC.out hb8)
            have S8 := Lib.hid hs8.sl
            have dq : w8.cell? ⟨q, j2, none⟩ = some (.int .u8 (B8 (H2.getD j2 0))) := by rw [J8.out.at'.cell, List.getElem?_toArray]; exact u8s_get _ _ (by rw [J8.out.hl]; exact hlt2)
            obtain ⟨y, hy⟩ : ∃ y, y = H2.getD j2 0 := ⟨_, rfl⟩
            rw [← hy] at dq S8
            clear hs8 hb8 J0 f9 hy
            go_wp2_with fail
            refine (block_any y w8).mono ?_
            rintro e w9 ⟨g9, rfl, ha, hg, hb9⟩
            have J9 := Lib.hid (J8.out.below CC.out hb9)
            have S9 := Lib.hid (S8.out.below hb9)
            have T9 := Lib.hid (at_sl ha rfl)
            rw [List.length_replicate] at T9 ⊢
            clear ha hg hb9 J8 S8 dq
            go_wp2_with fail
            refine (same_any (List.replicate 256 y) (List.replicate 256 y) _ _ w9 S9.out T9.out (by rw [List.length_replicate]; decide) (by rw [List.length_replicate]; decide)).mono ?_
            rintro e w10 ⟨rfl, hb10⟩
            rw [sameB_self]
            have J10 := Lib.hid (J9.out.below CC.out hb10)
            clear hb10 J9 S9 T9
            go_wp2_with fail
            go_roundw
            case rel => exact ⟨j2 + 1, by omega, by go_num, J10.out⟩
            case measure => simp [intOf]; omega
          · have hge : ¬ (j2 : Int) < 8 := by omega
            have J0 := Lib.hid hJ
            clear hJ hlt2
            go_wp2_with fail
            go_roundw
            case rel => exact ⟨j + 1, by omega, by go_num, s2, H2, J0.out⟩
            case measure => simp [intOf]; omega
      · go_wp2_with (refine wpList_store_new (by rfl) 39 _ _ (by rfl) (by rfl) (stepC6 x) _ _ (by rfl) (by rfl) (by exact infoStep6) (by rfl) (stepC6_one x) ?_; clear c0 c1 c2 c3 c4; generalize wr.alloc (.cells (stepC6 x) 39) = w4 at *; generalize wr.heap.size = bx at *; have d0 : w4.cell? ⟨bx, 0, none⟩ = some (.int .u8 (B8 x.k)) := A3.out.cell' 0 rfl; have d1 : w4.cell? ⟨bx, 1, none⟩ = some (.int .i64 x.n) := A3.out.cell' 1 rfl; have d3 : w4.cell? ⟨bx, 3, none⟩ = some (.int .u8 (B8 x.x)) := A3.out.cell' 3 rfl)
        refine (Solo.call S4.out (fun F h => CC.out.flush w4 h (OKJ.out.mono (by omega)))).mono ?_
        rintro e w5 ⟨rfl, hs5, hk5⟩
        have S5 := Lib.hid hs5; have A5 := Lib.hid (A3.out.kept hk5 (.inr rfl)); have Q5 := Lib.hid (Q4.out.kept hk5 (.inl rfl))
        clear hs5 hk5 S4 A3 Q4
        obtain ⟨s2, hs2⟩ : ∃ s2, s2 = stFlush s := ⟨_, rfl⟩
        obtain ⟨H2, hH2⟩ : ∃ H2, H2 = H := ⟨_, rfl⟩
        have I7 : Hid (RdI R bs q w (j + 1) s2 H2 w5) := (by rw [hs2, hH2]; exact ⟨S5.out.less _ (fun k hk => .inl hk), Q5.out, HLN.out, HBQ.out, ok_flush OKJ.out, SN.out, has_flush OKJ.out SN.out HAS.out⟩)
        clear S5 A5 Q5 hs2 hH2 d0 d1 d3
        go_wp2_with fail
        go_loopw [62] (fun i wy => ∃ j2 : Nat, j2 ≤ 8 ∧ i = .int .i64 j2 ∧ RdI R bs q w (j + 1) s2 H2 wy) (fun i _ => 8 - (intOf i).toNat)
        case atStart => exact ⟨0, by omega, rfl, I7.out⟩
        case round =>
          clear I7
          obtain ⟨j2, hj2, rfl, hJ⟩ := hrel
          by_cases hlt2 : j2 < 8
          · have hlt2' : (j2 : Int) < 8 := by omega
            have J0 := Lib.hid hJ
            obtain ⟨F9, f9, _⟩ := hJ.so.f
            clear hJ
            go_wp2_with fail
            refine (CC.out.read j2 wr f9 (J0.out.ok.mono (by omega)) (by rw [J0.out.n]; exact hlt2)).mono ?_
            rintro e w8 ⟨v8, rfl, hs8, hb8⟩
            rw [J0.out.has j2 hlt2] at hs8
            obtain ⟨a8, c8, rfl⟩ := hs8.hd
            rw [List.length_replicate] at hs8 ⊢
            have J8 := Lib.hid (J0.out.below CC.out hb8)
            have S8 := Lib.hid hs8.sl
            have dq : w8.cell? ⟨q, j2, none⟩ = some (.int .u8 (B8 (H2.getD j2 0))) := by rw [J8.out.at'.cell, List.getElem?_toArray]; exact u8s_get _ _ (by rw [J8.out.hl]; exact hlt2)
            obtain ⟨y, hy⟩ : ∃ y, y = H2.getD j2 0 := ⟨_, rfl⟩
            rw [← hy] at dq S8
            clear hs8 hb8 J0 f9 hy
            go_wp2_with fail
            refine (block_any y w8).mono ?_
            rintro e w9 ⟨g9, rfl, ha, hg, hb9⟩
            have J9 := Lib.hid (J8.out.below CC.out hb9)
            have S9 := Lib.hid (S8.out.below hb9)
            have T9 := Lib.hid (at_sl ha rfl)
            rw [List.length_replicate] at T9 ⊢
            clear ha hg hb9 J8 S8 dq
            go_wp2_with fail
            refine (same_any (List.replicate 256 y) (List.replicate 256 y) _ _ w9 S9.out T9.out (by rw [List.length_replicate]; decide) (by rw [List.length_replicate]; decide)).mono ?_
            rintro e w10 ⟨rfl, hb10⟩
            rw [sameB_self]
            have J10 := Lib.hid (J9.out.below CC.out hb10)
            clear hb10 J9 S9 T9
            go_wp2_with fail
            go_roundw
            case rel => exact ⟨j2 + 1, by omega, by go_num, J10.out⟩
            case measure => simp [intOf]; omega
          · have hge : ¬ (j2 : Int) < 8 := by omega
            have J0 := Lib.hid hJ
            clear hJ hlt2
            go_wp2_with fail
            go_roundw
            case rel => exact ⟨j + 1, by omega, by go_num, s2, H2, J0.out⟩
            case measure => simp [intOf]; omega
      · go_wp2_with (refine wpList_store_new (by rfl) 39 _ _ (by rfl) (by rfl) (stepC6 x) _ _ (by rfl) (by rfl) (by exact infoStep6) (by rfl) (stepC6_one x) ?_; clear c0 c1 c2 c3 c4; generalize wr.alloc (.cells (stepC6 x) 39) = w4 at *; generalize wr.heap.size = bx at *; have d0 : w4.cell? ⟨bx, 0, none⟩ = some (.int .u8 (B8 x.k)) := A3.out.cell' 0 rfl; have d1 : w4.cell? ⟨bx, 1, none⟩ = some (.int .i64 x.n) := A3.out.cell' 1 rfl; have d3 : w4.cell? ⟨bx, 3, none⟩ = some (.int .u8 (B8 x.x)) := A3.out.cell' 3 rfl)
        refine (Solo.call S4.out (fun F h => CC.out.flush w4 h (OKJ.out.mono (by omega)))).mono ?_
        rintro e w5 ⟨rfl, hs5, hk5⟩
        have S5 := Lib.hid hs5; have A5 := Lib.hid (A3.out.kept hk5 (.inr rfl)); have Q5 := Lib.hid (Q4.out.kept hk5 (.inl rfl))
        clear hs5 hk5 S4 A3 Q4
        have e1 : w5.cell? ⟨bx, 1, none⟩ = some (.int .i64 x.n) := A5.out.cell' 1 rfl
        have e2 : w5.cell? ⟨bx, 2, none⟩ = some (.int .i64 x.a) := A5.out.cell' 2 rfl
        have e4 : w5.cell? ⟨bx, 4, none⟩ = some (.int .u64 (x.q : Int)) := A5.out.cell' 4 rfl
        clear d0 d1 d3
        go_wp2_with fail
        refine (Solo.call S5.out (fun F h => CC.out.crash x.q x.n x.a w5 h ((ok_flush OKJ.out).mono (by omega)) GX.out.2.2 GX.out.1.1 GX.out.1.2 GX.out.2.1.1 GX.out.2.1.2)).mono ?_
        rintro e w6 ⟨rfl, hs6, hk6⟩
        have S6 := Lib.hid hs6; have Q6 := Lib.hid (Q5.out.kept hk6 (.inl rfl))
        clear hs6 hk6 S5 A5 Q5 e1 e2 e4
        obtain ⟨s2, hs2⟩ : ∃ s2, s2 = stCrash (stFlush s) x.q x.n x.a := ⟨_, rfl⟩
        obtain ⟨H2, hH2⟩ : ∃ H2, H2 = H := ⟨_, rfl⟩
        have I7 : Hid (RdI R bs q w (j + 1) s2 H2 w6) := (by rw [hs2, hH2]; exact ⟨S6.out.less _ (fun k hk => .inl hk), Q6.out, HLN.out, HBQ.out, ok_crash (ok_flush OKJ.out) _ _ _, SN.out, has_crash (has_flush OKJ.out SN.out HAS.out) _ _ _⟩)
        clear S6 Q6 hs2 hH2
        go_wp2_with fail
        go_loopw [62] (fun i wy => ∃ j2 : Nat, j2 ≤ 8 ∧ i = .int .i64 j2 ∧ RdI R bs q w (j + 1) s2 H2 wy) (fun i _ => 8 - (intOf i).toNat)
        case atStart => exact ⟨0, by omega, rfl, I7.out⟩
        case round =>
          clear I7
          obtain ⟨j2, hj2, rfl, hJ⟩ := hrel
          by_cases hlt2 : j2 < 8
          · have hlt2' : (j2 : Int) < 8 := by omega
            have J0 := Lib.hid hJ
            obtain ⟨F9, f9, _⟩ := hJ.so.f
            clear hJ
            go_wp2_with fail
            refine (CC.out.read j2 wr f9 (J0.out.ok.mono (by omega)) (by rw [J0.out.n]; exact hlt2)).mono ?_
            rintro e w8 ⟨v8, rfl, hs8, hb8⟩
            rw [J0.out.has j2 hlt2] at hs8
            obtain ⟨a8, c8, rfl⟩ := hs8.hd
            rw [List.length_replicate] at hs8 ⊢
            have J8 := Lib.hid (J0.out.below CC.out hb8)
            have S8 := Lib.hid hs8.sl
            have dq : w8.cell? ⟨q, j2, none⟩ = some (.int .u8 (B8 (H2.getD j2 0))) := by rw [J8.out.at'.cell, List.getElem?_toArray]; exact u8s_get _ _ (by rw [J8.out.hl]; exact hlt2)
            obtain ⟨y, hy⟩ : ∃ y, y = H2.getD j2 0 := ⟨_, rfl⟩
            rw [← hy] at dq S8
            clear hs8 hb8 J0 f9 hy
            go_wp2_with fail
            refine (block_any y w8).mono ?_
            rintro e w9 ⟨g9, rfl, ha, hg, hb9⟩
            have J9 := Lib.hid (J8.out.below CC.out hb9)
            have S9 := Lib.hid (S8.out.below hb9)
            have T9 := Lib.hid (at_sl ha rfl)
            rw [List.length_replicate] at T9 ⊢
            clear ha hg hb9 J8 S8 dq
            go_wp2_with fail
            refine (same_any (List.replicate 256 y) (List.replicate 256 y) _ _ w9 S9.out T9.out (by rw [List.length_replicate]; decide) (by rw [List.length_replicate]; decide)).mono ?_
            rintro e w10 ⟨rfl, hb10⟩
            rw [sameB_self]
            have J10 := Lib.hid (J9.out.below CC.out hb10)
            clear hb10 J9 S9 T9
            go_wp2_with fail
            go_roundw
            case rel => exact ⟨j2 + 1, by omega, by go_num, J10.out⟩
            case measure => simp [intOf]; omega
          · have hge : ¬ (j2 : Int) < 8 := by omega
            have J0 := Lib.hid hJ
            clear hJ hlt2
            go_wp2_with fail
            go_roundw
            case rel => exact ⟨j + 1, by omega, by go_num, s2, H2, J0.out⟩
            case measure => simp [intOf]; omega
      · go_wp2_with (refine wpList_store_new (by rfl) 39 _ _ (by rfl) (by rfl) (stepC6 x) _ _ (by rfl) (by rfl) (by exact infoStep6) (by rfl) (stepC6_one x) ?_; clear c0 c1 c2 c3 c4; generalize wr.alloc (.cells (stepC6 x) 39) = w4 at *; generalize wr.heap.size = bx at *; have d0 : w4.cell? ⟨bx, 0, none⟩ = some (.int .u8 (B8 x.k)) := A3.out.cell' 0 rfl; have d1 : w4.cell? ⟨bx, 1, none⟩ = some (.int .i64 x.n) := A3.out.cell' 1 rfl; have d3 : w4.cell? ⟨bx, 3, none⟩ = some (.int .u8 (B8 x.x)) := A3.out.cell' 3 rfl)
        refine (block_any x.x w4).mono ?_
        rintro e w5 ⟨g, rfl, ha, hg, hb5⟩
        have S5 := Lib.hid (S4.out.below CC.out hb5); have A5 := Lib.hid (A3.out.below hb5 A3.out.lt); have Q5 := Lib.hid (Q4.out.below hb5 Q4.out.lt); have G5 := Lib.hid (at_sl ha rfl)
        rw [List.length_replicate] at G5 ⊢
        clear ha hg hb5 S4 A3 Q4 d0 d1 d3
        go_wp2_with fail
        refine (Solo.call S5.out (fun F h => CC.out.write n (List.replicate 256 x.x) _ w5 h (OKJ.out.mono (by omega)) G5.out (by rw [SN.out]; omega) List.length_replicate)).mono ?_
        rintro e w6 ⟨rfl, hs6, hk6⟩
        have S6 := Lib.hid hs6; have A6 := Lib.hid (A5.out.kept hk6 (.inr rfl)); have Q6 := Lib.hid (Q5.out.kept hk6 (.inl rfl))
        have e3 : w6.cell? ⟨bx, 3, none⟩ = some (.int .u8 (B8 x.x)) := A6.out.cell' 3 rfl
        clear hs6 hk6 S5 A5 Q5 G5
        go_wp2_with (refine Mem.wpList_store_one (by rfl) 5 _ _ (by rfl) (by rfl) q n (.int .u8 (B8 x.x)) (by rfl) (by rfl) (by rfl) infoB _ 50 Q6.out (by rw [List.size_toArray, u8s_length, HLN.out]; omega) ?_; intro w7 ha ho hk; rw [show (.int .u8 (B8 x.x) : Value) = .int .u8 (x.x.toNat : Int) from rfl, u8s_set] at ha; have Q7 := Lib.hid ha; have S7 := Lib.hid (S6.out.poke CC.out (q := q) (.inl rfl) HBQ.out ho hk); clear ha ho hk e3 S6 Q6 A6)
        obtain ⟨s2, hs2⟩ : ∃ s2, s2 = stWrite s n (List.replicate 256 x.x) := ⟨_, rfl⟩
        obtain ⟨H2, hH2⟩ : ∃ H2, H2 = H.set n x.x := ⟨_, rfl⟩
        have I7 : Hid (RdI R bs q w (j + 1) s2 H2 w7) := (by rw [hs2, hH2]; exact ⟨S7.out.less _ (fun k hk => .inl hk), Q7.out, by rw [List.length_set]; exact HLN.out, HBQ.out, ok_write OKJ.out n _ (by rw [SN.out]; omega) List.length_replicate, SN.out, has_write HAS.out HLN.out n x.x (by omega)⟩)
        clear S7 Q7 hs2 hH2
        go_wp2_with fail
        go_loopw [62] (fun i wy => ∃ j2 : Nat, j2 ≤ 8 ∧ i = .int .i64 j2 ∧ RdI R bs q w (j + 1) s2 H2 wy) (fun i _ => 8 - (intOf i).toNat)
        case atStart => exact ⟨0, by omega, rfl, I7.out⟩
        case round =>
          clear I7
          obtain ⟨j2, hj2, rfl, hJ⟩ := hrel
          by_cases hlt2 : j2 < 8
          · have hlt2' : (j2 : Int) < 8 := by omega
            have J0 := Lib.hid hJ
            obtain ⟨F9, f9, _⟩ := hJ.so.f
            clear hJ
            go_wp2_with fail
            refine (CC.out.read j2 wr f9 (J0.out.ok.mono (by omega)) (by rw [J0.out.n]; exact hlt2)).mono ?_
            rintro e w8 ⟨v8, rfl, hs8, hb8⟩
            rw [J0.out.has j2 hlt2] at hs8
            obtain ⟨a8, c8, rfl⟩ := hs8.hd
            rw [List.length_replicate] at hs8 ⊢
            have J8 := Lib.hid (J0.out.below CC.out hb8)
            have S8 := Lib.hid hs8.sl
            have dq : w8.cell? ⟨q, j2, none⟩ = some (.int .u8 (B8 (H2.getD j2 0))) := by rw [J8.out.at'.cell, List.getElem?_toArray]; exact u8s_get _ _ (by rw [J8.out.hl]; exact hlt2)
            obtain ⟨y, hy⟩ : ∃ y, y = H2.getD j2 0 := ⟨_, rfl⟩
            rw [← hy] at dq S8
            clear hs8 hb8 J0 f9 hy
            go_wp2_with fail
            refine (block_any y w8).mono ?_
            rintro e w9 ⟨g9, rfl, ha, hg, hb9⟩
            have J9 := Lib.hid (J8.out.below CC.out hb9)
            have S9 := Lib.hid (S8.out.below hb9)
            have T9 := Lib.hid (at_sl ha rfl)
            rw [List.length_replicate] at T9 ⊢
            clear ha hg hb9 J8 S8 dq
            go_wp2_with fail
            refine (same_any (List.replicate 256 y) (List.replicate 256 y) _ _ w9 S9.out T9.out (by rw [List.length_replicate]; decide) (by rw [List.length_replicate]; decide)).mono ?_
            rintro e w10 ⟨rfl, hb10⟩
            rw [sameB_self]
            have J10 := Lib.hid (J9.out.below CC.out hb10)
            clear hb10 J9 S9 T9
            go_wp2_with fail
            go_roundw
            case rel => exact ⟨j2 + 1, by omega, by go_num, J10.out⟩
            case measure => simp [intOf]; omega
          · have hge : ¬ (j2 : Int) < 8 := by omega
            have J0 := Lib.hid hJ
            clear hJ hlt2
            go_wp2_with fail
            go_roundw
            case rel => exact ⟨j + 1, by omega, by go_num, s2, H2, J0.out⟩
            case measure => simp [intOf]; omega
      · go_wp2_with (refine wpList_store_new (by rfl) 39 _ _ (by rfl) (by rfl) (stepC6 x) _ _ (by rfl) (by rfl) (by exact infoStep6) (by rfl) (stepC6_one x) ?_; clear c0 c1 c2 c3 c4; generalize wr.alloc (.cells (stepC6 x) 39) = w4 at *; generalize wr.heap.size = bx at *; have d0 : w4.cell? ⟨bx, 0, none⟩ = some (.int .u8 (B8 x.k)) := A3.out.cell' 0 rfl; have d1 : w4.cell? ⟨bx, 1, none⟩ = some (.int .i64 x.n) := A3.out.cell' 1 rfl; have d3 : w4.cell? ⟨bx, 3, none⟩ = some (.int .u8 (B8 x.x)) := A3.out.cell' 3 rfl)
        refine (block_any x.x w4).mono ?_
        rintro e w5 ⟨g, rfl, ha, hg, hb5⟩
        have S5 := Lib.hid (S4.out.below CC.out hb5); have A5 := Lib.hid (A3.out.below hb5 A3.out.lt); have Q5 := Lib.hid (Q4.out.below hb5 Q4.out.lt); have G5 := Lib.hid (at_sl ha rfl)
        rw [List.length_replicate] at G5 ⊢
        clear ha hg hb5 S4 A3 Q4 d0 d1 d3
        go_wp2_with fail
        refine (Solo.call S5.out (fun F h => CC.out.write n (List.replicate 256 x.x) _ w5 h (OKJ.out.mono (by omega)) G5.out (by rw [SN.out]; omega) List.length_replicate)).mono ?_
        rintro e w6 ⟨rfl, hs6, hk6⟩
        have S6 := Lib.hid hs6; have A6 := Lib.hid (A5.out.kept hk6 (.inr rfl)); have Q6 := Lib.hid (Q5.out.kept hk6 (.inl rfl))
        have e3 : w6.cell? ⟨bx, 3, none⟩ = some (.int .u8 (B8 x.x)) := A6.out.cell' 3 rfl
        clear hs6 hk6 S5 A5 Q5 G5
        go_wp2_with (refine Mem.wpList_store_one (by rfl) 5 _ _ (by rfl) (by rfl) q n (.int .u8 (B8 x.x)) (by rfl) (by rfl) (by rfl) infoB _ 50 Q6.out (by rw [List.size_toArray, u8s_length, HLN.out]; omega) ?_; intro w7 ha ho hk; rw [show (.int .u8 (B8 x.x) : Value) = .int .u8 (x.x.toNat : Int) from rfl, u8s_set] at ha; have Q7 := Lib.hid ha; have S7 := Lib.hid (S6.out.poke CC.out (q := q) (.inl rfl) HBQ.out ho hk); clear ha ho hk e3 S6 Q6 A6)
        obtain ⟨s2, hs2⟩ : ∃ s2, s2 = stWrite s n (List.replicate 256 x.x) := ⟨_, rfl⟩
        obtain ⟨H2, hH2⟩ : ∃ H2, H2 = H.set n x.x := ⟨_, rfl⟩
        have I7 : Hid (RdI R bs q w (j + 1) s2 H2 w7) := (by rw [hs2, hH2]; exact ⟨S7.out.less _ (fun k hk => .inl hk), Q7.out, by rw [List.length_set]; exact HLN.out, HBQ.out, ok_write OKJ.out n _ (by rw [SN.out]; omega) List.length_replicate, SN.out, has_write HAS.out HLN.out n x.x (by omega)⟩)
        clear S7 Q7 hs2 hH2
        go_wp2_with fail
        go_loopw [62] (fun i wy => ∃ j2 : Nat, j2 ≤ 8 ∧ i = .int .i64 j2 ∧ RdI R bs q w (j + 1) s2 H2 wy) (fun i _ => 8 - (intOf i).toNat)
        case atStart => exact ⟨0, by omega, rfl, I7.out⟩
        case round =>
          clear I7
          obtain ⟨j2, hj2, rfl, hJ⟩ := hrel
          by_cases hlt2 : j2 < 8
          · have hlt2' : (j2 : Int) < 8 := by omega
            have J0 := Lib.hid hJ
            obtain ⟨F9, f9, _⟩ := hJ.so.f
            clear hJ
            go_wp2_with fail
            refine (CC.out.read j2 wr f9 (J0.out.ok.mono (by omega)) (by rw [J0.out.n]; exact hlt2)).mono ?_
            rintro e w8 ⟨v8, rfl, hs8, hb8⟩
            rw [J0.out.has j2 hlt2] at hs8
            obtain ⟨a8, c8, rfl⟩ := hs8.hd
            rw [List.length_replicate] at hs8 ⊢
            have J8 := Lib.hid (J0.out.below CC.out hb8)
            have S8 := Lib.hid hs8.sl
            have dq : w8.cell? ⟨q, j2, none⟩ = some (.int .u8 (B8 (H2.getD j2 0))) := by rw [J8.out.at'.cell, List.getElem?_toArray]; exact u8s_get _ _ (by rw [J8.out.hl]; exact hlt2)
            obtain ⟨y, hy⟩ : ∃ y, y = H2.getD j2 0 := ⟨_, rfl⟩
            rw [← hy] at dq S8
            clear hs8 hb8 J0 f9 hy
            go_wp2_with fail
            refine (block_any y w8).mono ?_
            rintro e w9 ⟨g9, rfl, ha, hg, hb9⟩
            have J9 := Lib.hid (J8.out.below CC.out hb9)
            have S9 := Lib.hid (S8.out.below hb9)
            have T9 := Lib.hid (at_sl ha rfl)
            rw [List.length_replicate] at T9 ⊢
            clear ha hg hb9 J8 S8 dq
            go_wp2_with fail
            refine (same_any (List.replicate 256 y) (List.replicate 256 y) _ _ w9 S9.out T9.out (by rw [List.length_replicate]; decide) (by rw [List.length_replicate]; decide)).mono ?_
            rintro e w10 ⟨rfl, hb10⟩
            rw [sameB_self]
            have J10 := Lib.hid (J9.out.below CC.out hb10)
            clear hb10 J9 S9 T9
            go_wp2_with fail
            go_roundw
            case rel => exact ⟨j2 + 1, by omega, by go_num, J10.out⟩
            case measure => simp [intOf]; omega
          · have hge : ¬ (j2 : Int) < 8 := by omega
            have J0 := Lib.hid hJ
            clear hJ hlt2
            go_wp2_with fail
            go_roundw
            case rel => exact ⟨j + 1, by omega, by go_num, s2, H2, J0.out⟩
            case measure => simp [intOf]; omega
      · go_wp2_with (refine wpList_store_new (by rfl) 39 _ _ (by rfl) (by rfl) (stepC6 x) _ _ (by rfl) (by rfl) (by exact infoStep6) (by rfl) (stepC6_one x) ?_; clear c0 c1 c2 c3 c4; generalize wr.alloc (.cells (stepC6 x) 39) = w4 at *; generalize wr.heap.size = bx at *; have d0 : w4.cell? ⟨bx, 0, none⟩ = some (.int .u8 (B8 x.k)) := A3.out.cell' 0 rfl; have d1 : w4.cell? ⟨bx, 1, none⟩ = some (.int .i64 x.n) := A3.out.cell' 1 rfl; have d3 : w4.cell? ⟨bx, 3, none⟩ = some (.int .u8 (B8 x.x)) := A3.out.cell' 3 rfl)
        refine (block_any x.x w4).mono ?_
        rintro e w5 ⟨g, rfl, ha, hg, hb5⟩
        have S5 := Lib.hid (S4.out.below CC.out hb5); have A5 := Lib.hid (A3.out.below hb5 A3.out.lt); have Q5 := Lib.hid (Q4.out.below hb5 Q4.out.lt); have G5 := Lib.hid (at_sl ha rfl)
        rw [List.length_replicate] at G5 ⊢
        clear ha hg hb5 S4 A3 Q4 d0 d1 d3
        go_wp2_with fail
        refine (Solo.call S5.out (fun F h => CC.out.write n (List.replicate 256 x.x) _ w5 h (OKJ.out.mono (by omega)) G5.out (by rw [SN.out]; omega) List.length_replicate)).mono ?_
        rintro e w6 ⟨rfl, hs6, hk6⟩
        have S6 := Lib.hid hs6; have A6 := Lib.hid (A5.out.kept hk6 (.inr rfl)); have Q6 := Lib.hid (Q5.out.kept hk6 (.inl rfl))
        have e3 : w6.cell? ⟨bx, 3, none⟩ = some (.int .u8 (B8 x.x)) := A6.out.cell' 3 rfl
        clear hs6 hk6 S5 A5 Q5 G5
        go_wp2_with (refine Mem.wpList_store_one (by rfl) 5 _ _ (by rfl) (by rfl) q n (.int .u8 (B8 x.x)) (by rfl) (by rfl) (by rfl) infoB _ 50 Q6.out (by rw [List.size_toArray, u8s_length, HLN.out]; omega) ?_; intro w7 ha ho hk; rw [show (.int .u8 (B8 x.x) : Value) = .int .u8 (x.x.toNat : Int) from rfl, u8s_set] at ha; have Q7 := Lib.hid ha; have S7 := Lib.hid (S6.out.poke CC.out (q := q) (.inl rfl) HBQ.out ho hk); clear ha ho hk e3 S6 Q6 A6)
        obtain ⟨s2, hs2⟩ : ∃ s2, s2 = stWrite s n (List.replicate 256 x.x) := ⟨_, rfl⟩
        obtain ⟨H2, hH2⟩ : ∃ H2, H2 = H.set n x.x := ⟨_, rfl⟩
        have I7 : Hid (RdI R bs q w (j + 1) s2 H2 w7) := (by rw [hs2, hH2]; exact ⟨S7.out.less _ (fun k hk => .inl hk), Q7.out, by rw [List.length_set]; exact HLN.out, HBQ.out, ok_write OKJ.out n _ (by rw [SN.out]; omega) List.length_replicate, SN.out, has_write HAS.out HLN.out n x.x (by omega)⟩)
        clear S7 Q7 hs2 hH2
        go_wp2_with fail
        go_loopw [62] (fun i wy => ∃ j2 : Nat, j2 ≤ 8 ∧ i = .int .i64 j2 ∧ RdI R bs q w (j + 1) s2 H2 wy) (fun i _ => 8 - (intOf i).toNat)
        case atStart => exact ⟨0, by omega, rfl, I7.out⟩
        case round =>
          clear I7
          obtain ⟨j2, hj2, rfl, hJ⟩ := hrel
          by_cases hlt2 : j2 < 8
          · have hlt2' : (j2 : Int) < 8 := by omega
            have J0 := Lib.hid hJ
            obtain ⟨F9, f9, _⟩ := hJ.so.f
            clear hJ
            go_wp2_with fail
            refine (CC.out.read j2 wr f9 (J0.out.ok.mono (by omega)) (by rw [J0.out.n]; exact hlt2)).mono ?_
            rintro e w8 ⟨v8, rfl, hs8, hb8⟩
            rw [J0.out.has j2 hlt2] at hs8
            obtain ⟨a8, c8, rfl⟩ := hs8.hd
            rw [List.length_replicate] at hs8 ⊢
            have J8 := Lib.hid (J0.out.below CC.out hb8)
            have S8 := Lib.hid hs8.sl
            have dq : w8.cell? ⟨q, j2, none⟩ = some (.int .u8 (B8 (H2.getD j2 0))) := by rw [J8.out.at'.cell, List.getElem?_toArray]; exact u8s_get _ _ (by rw [J8.out.hl]; exact hlt2)
            obtain ⟨y, hy⟩ : ∃ y, y = H2.getD j2 0 := ⟨_, rfl⟩
            rw [← hy] at dq S8
            clear hs8 hb8 J0 f9 hy
            go_wp2_with fail
            refine (block_any y w8).mono ?_
            rintro e w9 ⟨g9, rfl, ha, hg, hb9⟩
            have J9 := Lib.hid (J8.out.below CC.out hb9)
            have S9 := Lib.hid (S8.out.below hb9)
            have T9 := Lib.hid (at_sl ha rfl)
            rw [List.length_replicate] at T9 ⊢
            clear ha hg hb9 J8 S8 dq
            go_wp2_with fail
            refine (same_any (List.replicate 256 y) (List.replicate 256 y) _ _ w9 S9.out T9.out (by rw [List.length_replicate]; decide) (by rw [List.length_replicate]; decide)).mono ?_
            rintro e w10 ⟨rfl, hb10⟩
            rw [sameB_self]
            have J10 := Lib.hid (J9.out.below CC.out hb10)
            clear hb10 J9 S9 T9
            go_wp2_with fail
            go_roundw
            case rel => exact ⟨j2 + 1, by omega, by go_num, J10.out⟩
            case measure => simp [intOf]; omega
          · have hge : ¬ (j2 : Int) < 8 := by omega
            have J0 := Lib.hid hJ
            clear hJ hlt2
            go_wp2_with fail
            go_roundw
            case rel => exact ⟨j + 1, by omega, by go_num, s2, H2, J0.out⟩
            case measure => simp [intOf]; omega
    · have hge : ¬ (j : Int) < (ln : Int) := by omega
      have I9 := Lib.hid hI
      clear hI hlt
      go_wp2_with fail
      refine (ALV.out _).mono ?_
      rintro e w4 ⟨rfl, hb4⟩
      have B4 := Lib.hid (I9.out.so.b.trans (hb4.mono I9.out.so.b.size))
      clear hb4
      go_wp2_with fail
      go_ret
      exact ⟨rfl, B4.out⟩
end Sha
end Go.Proofs.Ytkgpcgkikenljaa
