/- The document's block of the cipher's stream: its walk. The document's stream of the cipher: its walk. The document's turning of bytes: its walk. -/
import Derived.Test.YtjadjidjfkahpaaDoorBD
import Derived.Deep.DeepCutAuto
namespace Go.Proofs.YtjadjidjfkahpaaDoor
namespace Sha
open Go.RowKit Mem
theorem wpList_slice_arr_mid {P : Program} {ops : Array Oper} {rest : List Oper} {op : Oper} {a : Act} {w : World} {Q : Exit → Act → World → Prop} (hgd : op.guard = none) (ty : TypeId) (x i j : Operand) (ho : op.op = .slice ty x (some i) (some j) none)
    (elem : TypeId) (n : Nat) (hu : P.underlying ty = some (.array n elem)) (hs : (P.info? elem).map (·.size) = some 1) (b k l : Nat) (hx : a.eval x = .pointer (some ⟨b, 0, none⟩)) (hi : a.eval i = .int .i64 (k : Int)) (hj : a.eval j = .int .i64 (l : Int)) (hk : k ≤ l) (hl : l ≤ n) (hkc : k < n)
    (h : wpList P ops Q rest (a.put op.dst (.slice (some ⟨b, k, none⟩) (l - k) (n - k))) w) : wpList P ops Q (op :: rest) a w := by
  refine wpList_plain hgd fun K hK => ?_
  cases hq : P.info? elem with
  | none => simp [hq] at hs
  | some q =>
    have hs1 : q.size = 1 := by simpa [hq] using hs
    have hne : ¬ n = k := by omega
    have hkl : (k : Int) ≤ (l : Int) := by omega
    have hlc : (l : Int) ≤ (n : Int) := by omega
    have had : (⟨b, 0, none⟩ : Addr).add k = ⟨b, k, none⟩ := by simp [Addr.add]; omega
    have hat : (Instr.sliceAt ty (.pointer (some ⟨b, 0, none⟩)) (some (.int .i64 (k : Int))) (some (.int .i64 (l : Int))) none).run P w = .ok (.slice (some ⟨b, k, none⟩) (l - k) (n - k)) w := by
      simp [Instr.sliceAt, Instr.sureAddr, Instr.sliceBounds, Instr.sliceBound, asIntOf, Sem.run_bind, run_underlying hu, sizeOf, typeInfo, hq, hs1, hk, hl, hne, had]
    unfold Oper.wp execOp
    simp only [ho, hx, hi, hj, Option.map_some, Option.map_none, Sem.run_bind, hat, Result.andThen_ok, Sem.run_pure]
    exact hK _ _ h
theorem elemW4 : elemB Tryd.prog 96 65 (.int .u32 0) 4 := ⟨Tryd.underlying96, by kernel_rfl⟩
theorem u32s_snoc (l : List (BitVec 32)) (x : BitVec 32) : u32s (l ++ [x]) = u32s l ++ [.int .u32 (V x)] := by simp [u32s]
/-- Four bytes of an array in memory, as a slice. -/
theorem at_mid4 {w : World} {b n i : Nat} {l : List (BitVec 8)} {t : TypeId} (h : At w b (u8s l).toArray t) (hl : l.length = n) (hi : 4 * i + 4 ≤ n) :
    Sl w (.slice (some ⟨b, 4 * i, none⟩) (4 * i + 4 - 4 * i) (n - 4 * i)) ((l.drop (4 * i)).take 4) := by
  have hlen : ((l.drop (4 * i)).take 4).length = 4 := by rw [List.length_take, List.length_drop]; omega
  refine ⟨_, _, by rw [hlen, show 4 * i + 4 - 4 * i = 4 by omega], by rw [hlen]; omega, fun _ => ⟨b, 4 * i, rfl, h.lt, fun k hk => ?_⟩⟩
  rw [hlen] at hk
  rw [h.cell, List.getElem?_toArray, u8s_get l (4 * i + k) (by omega)]
  simp [List.getD_eq_getElem?_getD, hk]
theorem lew_mid (l : List (BitVec 8)) (i : Nat) (_h : 4 * i + 4 ≤ l.length) : lew ((l.drop (4 * i)).take 4) 0 = lew l i := by
  simp [lew, List.getD_eq_getElem?_getD]
/-- An own slice that is not empty: its block, and what lies behind its end. -/
theorem own_cells {w : World} {B : Nat} {e : TypeId} {v : Value} {xs : List Value} (h : OwnV w B e v xs) (hne : xs ≠ []) : ∃ g cap J, v = .slice (some ⟨g, 0, none⟩) xs.length cap ∧ xs.length ≤ cap ∧ B ≤ g ∧ At w g (xs ++ J).toArray e := by
  obtain ⟨_, h | ⟨g, cap, cur, rfl, hg, hh, hn, hc, hs, ht⟩⟩ := h
  · obtain ⟨_, h0⟩ := h
    exact absurd (List.eq_nil_of_length_eq_zero h0) hne
  · refine ⟨g, cap, cur.toList.drop xs.length, rfl, hn, hg, ?_⟩
    rw [Nat.mul_one] at ht
    have e1 : xs ++ cur.toList.drop xs.length = cur.toList := by
      have h2 := List.take_append_drop xs.length cur.toList
      rw [ht] at h2; exact h2
    rw [e1, Array.toArray_toList]
    exact hh
theorem app_get (L : List (BitVec 32)) (J : List Value) (i : Nat) (h : i < L.length) : (u32s L ++ J).toArray[i]? = some (.int .u32 (V (L.getD i 0))) := by
  rw [List.getElem?_toArray, List.getElem?_append_left (by rw [u32s_length]; exact h)]
  exact u32s_get L i h
theorem app_set (L : List (BitVec 32)) (J : List Value) (i : Nat) (x : BitVec 32) (h : i < L.length) : (u32s L ++ J).toArray.setIfInBounds i (.int .u32 (V x)) = (u32s (L.set i x) ++ J).toArray := by
  rw [List.setIfInBounds_toArray, List.set_append_left _ _ (by rw [u32s_length]; exact h)]
  congr 2
  simp [u32s, List.map_set]
theorem app_size (L : List (BitVec 32)) (J : List Value) : (u32s L ++ J).toArray.size = L.length + J.length := by simp [u32s]
structure W3 (L : List (BitVec 32)) (J : List Value) (bw : Nat) (w wA wr : World) : Prop where
  a : At wr bw (u32s L ++ J).toArray 65
  o : But bw wA wr
  b : Below w.heap.size w wr
structure W6 (L : List (BitVec 8)) (bo : Nat) (w wA wr : World) : Prop where
  a : At wr bo (u8s L).toArray 67
  o : But bo wA wr
  b : Below w.heap.size w wr
def OneAtQ (w : World) (C : Array Value) (t : TypeId) (x : Value) (wr : World) : Prop := ∃ b, x = .pointer (some ⟨b, 0, none⟩) ∧ w.heap.size ≤ b ∧ At wr b C t ∧ Below w.heap.size w wr
theorem run_allocQ (w : World) : (Instr.alloc 112 true (.tuple #[])).run Tryd.prog w = .ok (.pointer (some ⟨w.heap.size, 0, none⟩)) (w.alloc (.cells Z4 112)) := by kernel_rfl
theorem plc_cell (pb m : Nat) (h : m < 8) : ((List.range 8).map (plcRow pb)).toArray[m]? = some (.slice (some ⟨pb + m, 0, none⟩) 4 4) := by
  simp [h, plcRow]
structure FRel (C D : Array Value) (X : Array Value) (W : List (BitVec 32)) (v : Value) (w wr : World) : Prop where
  c : At wr w.heap.size C 24
  d : At wr (w.heap.size + 1) D 63
  r : At wr (w.heap.size + 1 + 1) X 67
  f : OwnV wr (w.heap.size + 1 + 1 + 1) 65 v (u32s W)
  b : Below w.heap.size w wr
/-- The first words of a block: four known ones, then those of the key. -/
def fkey (key : List (BitVec 8)) (j : Nat) : List (BitVec 32) := [1634760805, 857760878, 2036477234, 1797285236] ++ (List.range j).map (lew key)
theorem fkey_next (key : List (BitVec 8)) (j : Nat) : fkey key (j + 1) = fkey key j ++ [lew key j] := by simp [fkey, List.range_succ]
theorem fkey_length (key : List (BitVec 8)) (j : Nat) : (fkey key j).length = j + 4 := by simp [fkey]
def fnon (key nonce : List (BitVec 8)) (n : BitVec 32) (j : Nat) : List (BitVec 32) := fkey key 8 ++ [n] ++ (List.range j).map (lew nonce)
theorem fnon_next (key nonce : List (BitVec 8)) (n : BitVec 32) (j : Nat) : fnon key nonce n (j + 1) = fnon key nonce n j ++ [lew nonce j] := by simp [fnon, List.range_succ]
theorem fnon_length (key nonce : List (BitVec 8)) (n : BitVec 32) (j : Nat) : (fnon key nonce n j).length = j + 13 := by simp [fnon, fkey_length]; omega
theorem fnon_all (key nonce : List (BitVec 8)) (n : BitVec 32) : fnon key nonce n 3 = cfirst key nonce n := rfl
set_option maxRecDepth 100000 in
set_option maxHeartbeats 2000000 in
theorem rblk_any (key nonce : List (BitVec 8)) (n : BitVec 32) (lk : key.length = 32) (ln : nonce.length = 12) (w : World) :
    Calls Tryd.prog 62 #[.agg (u8s key).toArray, .agg (u8s nonce).toArray, .int .u32 (V n)] w fun o w' => o = .returned (.agg (u8s (cblk key nonce n)).toArray) ∧ Below w.heap.size w w' := by
  obtain ⟨X, hX⟩ : ∃ X, X = CZ64 := ⟨_, rfl⟩
  have hx := czero64
  rw [← hX] at hx
  have hXs : X.size = 64 := by rw [hX]; simp [CZ64, u8s]
  obtain ⟨C, hC⟩ : ∃ C, C = (u8s key).toArray := ⟨_, rfl⟩
  obtain ⟨D, hD⟩ : ∃ D, D = (u8s nonce).toArray := ⟨_, rfl⟩
  rw [← hC, ← hD]
  have hI : FRel C D X (fkey key 0) (.slice (some ⟨w.heap.size + 1 + 1 + 1, 0, none⟩) 4 4) w ((((w.alloc (.cells C 24)).alloc (.cells D 63)).alloc (.cells X 67)).alloc (.cells #[.int .u32 1634760805, .int .u32 857760878, .int .u32 2036477234, .int .u32 1797285236] 65)) := by
    refine ⟨((at_new w C _).alloc _).alloc _ |>.alloc _, ?_, ?_, ?_, ((((Below.refl _ _).alloc (Nat.le_refl _) _).alloc (by simp) _).alloc (by simp; omega) _).alloc (by simp; omega) _⟩
    · have h := ((at_new (w.alloc (.cells C 24)) D 63).alloc (.cells X 67)).alloc (.cells #[.int .u32 1634760805, .int .u32 857760878, .int .u32 2036477234, .int .u32 1797285236] 65)
      simpa using h
    · have h := (at_new ((w.alloc (.cells C 24)).alloc (.cells D 63)) X 67).alloc (.cells #[.int .u32 1634760805, .int .u32 857760878, .int .u32 2036477234, .int .u32 1797285236] 65)
      simpa using h
    · have h := World.ownsRow_lit (base := w.heap.size + 1 + 1 + 1) (e := 65) (size := 1) (((w.alloc (.cells C 24)).alloc (.cells D 63)).alloc (.cells X 67)) #[.int .u32 1634760805, .int .u32 857760878, .int .u32 2036477234, .int .u32 1797285236] 4 (by simp) (by decide) (by decide)
      simp at h
      have e : u32s (fkey key 0) = [.int .u32 1634760805, .int .u32 857760878, .int .u32 2036477234, .int .u32 1797285236] := rfl
      rw [e]
      exact h
  have KEY := Lib.hid lk; have NON := Lib.hid ln; have HI := Lib.hid hI; have HC := Lib.hid hC; have HD := Lib.hid hD; have XS := Lib.hid hXs
  have WORD := Lib.hid rword_any
  clear lk ln hI hC hD hXs hX
  go_enter Tryd.func62, Tryd.ntmps62
  go_wp2_with fail
  generalize (((w.alloc (.cells C 24)).alloc (.cells D 63)).alloc (.cells X 67)).alloc _ = w4 at *
  clear hx
  go_loopw [7, 8] (fun v i wr => ∃ j : Nat, j ≤ 8 ∧ i = .int .i64 j ∧ FRel C D X (fkey key j) v w wr) (fun _ i _ => 8 - (intOf i).toNat)
  case atStart => exact ⟨0, by omega, rfl, HI.out⟩
  case round =>
    clear HI
    obtain ⟨j, hj, rfl, hI⟩ := hrel
    by_cases hlt : j < 8
    · have hsl := at_mid4 (i := j) (by rw [← HC.out]; exact hI.c) KEY.out (by omega)
      have hw := fun wx (hb : Below wr.heap.size wr wx) => WORD.out _ _ wx (hsl.below hb) (by rw [List.length_take, List.length_drop, KEY.out]; omega)
      rw [lew_mid key j (by rw [KEY.out]; omega), show 4 * j + 4 - 4 * j = 4 by omega] at hw
      have hnx : u32s (fkey key (j + 1)) = u32s (fkey key j) ++ [.int .u32 (V (lew key j))] := by rw [fkey_next, u32s_snoc]
      have hfl : (u32s (fkey key j)).length = j + 4 := by rw [u32s_length, fkey_length]
      obtain ⟨F, hF⟩ : ∃ F, F = u32s (fkey key j) := ⟨_, rfl⟩
      obtain ⟨x, hxx⟩ : ∃ x, x = lew key j := ⟨_, rfl⟩
      have how := hI.f
      rw [← hF] at hnx hfl how
      rw [← hxx] at hnx hw
      have hlt' : (j : Int) < 8 := by omega
      have FL := Lib.hid hfl; have NX := Lib.hid hnx; have OW := Lib.hid how; have CC := Lib.hid hI.c; have DD := Lib.hid hI.d; have RR := Lib.hid hI.r; have BB := Lib.hid hI.b; have HW := Lib.hid hw
      clear hsl hw hnx hfl how hI hF hxx
      go_wp2_with (first | (refine wpList_slice_arr_mid (by rfl) 24 _ _ _ (by rfl) 5 32 Tryd.underlying24 infoB w.heap.size (4 * j) (4 * j + 4) (by rfl) (by exact congrArg (Value.int .i64) (by omega)) (by exact congrArg (Value.int .i64) (by omega)) (by omega) (by omega) (by omega) ?_))
      refine (HW.out _ (Below.refl _ _)).mono ?_
      rintro e w' ⟨rfl, hb⟩
      have OW2 := Lib.hid (OW.out.below hb); have CC2 := Lib.hid (CC.out.below hb CC.out.lt); have DD2 := Lib.hid (DD.out.below hb DD.out.lt); have RR2 := Lib.hid (RR.out.below hb RR.out.lt); have BB2 := Lib.hid (BB.out.trans (hb.mono BB.out.size))
      clear hb HW OW CC DD RR BB
      go_wp2_with (first | (at_builtin; refine wpList_append_lit (by rfl) _ _ 96 (by rfl) (.int .u32 (V x)) (.int .u32 0) 4 elemW4 (by rfl) (by rfl) OW2.out (by rfl) (by rfl) (by rw [FL.out]; omega) (by rw [FL.out]; omega) (by have := RR2.out.lt; omega) ?_; intro v' w' ho' _ hb' _; have OW3 := Lib.hid ho'; have CC3 := Lib.hid (CC2.out.below hb' (by omega)); have DD3 := Lib.hid (DD2.out.below hb' (by omega)); have RR3 := Lib.hid (RR2.out.below hb' (by omega)); have BB3 := Lib.hid (BB2.out.trans (hb'.mono (by omega))); clear ho' hb'))
      go_roundw
      case rel => exact ⟨j + 1, by omega, by go_num, ⟨CC3.out, DD3.out, RR3.out, by rw [NX.out]; exact OW3.out, BB3.out⟩⟩
      case measure => simp [intOf]; omega
    · have hj8 : j = 8 := by omega
      rw [hj8] at hI
      have hge : ¬ (j : Int) < 8 := by omega
      have hnx : u32s (fnon key nonce n 0) = u32s (fkey key 8) ++ [.int .u32 (V n)] := by rw [fnon]; simp [u32s]
      have hfl : (u32s (fkey key 8)).length = 12 := by rw [u32s_length, fkey_length]
      obtain ⟨F, hF⟩ : ∃ F, F = u32s (fkey key 8) := ⟨_, rfl⟩
      have how := hI.f
      rw [← hF] at hnx hfl how
      have FL := Lib.hid hfl; have NX := Lib.hid hnx; have OW := Lib.hid how; have CC := Lib.hid hI.c; have DD := Lib.hid hI.d; have RR := Lib.hid hI.r; have BB := Lib.hid hI.b
      clear hnx hfl how hI hF hj8 hlt hj
      go_wp2_with (first | (at_builtin; refine wpList_append_lit (by rfl) _ _ 96 (by rfl) (.int .u32 (V n)) (.int .u32 0) 4 elemW4 (by rfl) (by rfl) OW.out (by rfl) (by rfl) (by rw [FL.out]; omega) (by rw [FL.out]; omega) (by have := RR.out.lt; omega) ?_; intro v' w' ho' _ hb' _; have OW3 := Lib.hid ho'; have CC3 := Lib.hid (CC.out.below hb' (by omega)); have DD3 := Lib.hid (DD.out.below hb' (by omega)); have RR3 := Lib.hid (RR.out.below hb' (by omega)); have BB3 := Lib.hid (BB.out.trans (hb'.mono (by omega))); clear ho' hb'))
      clear CC DD RR BB OW
      rename_i v2 w2
      go_loopw [7, 9] (fun v i wr => ∃ j : Nat, j ≤ 3 ∧ i = .int .i64 j ∧ FRel C D X (fnon key nonce n j) v w wr) (fun _ i _ => 3 - (intOf i).toNat)
      case atStart => exact ⟨0, by omega, rfl, ⟨CC3.out, DD3.out, RR3.out, by rw [NX.out]; exact OW3.out, BB3.out⟩⟩
      case round =>
        clear CC3 DD3 RR3 BB3 OW3 NX FL
        obtain ⟨k, hk, rfl, hI⟩ := hrel
        by_cases hlt : k < 3
        · have hsl := at_mid4 (i := k) (by rw [← HD.out]; exact hI.d) NON.out (by omega)
          have hw := fun wx (hb : Below wr.heap.size wr wx) => WORD.out _ _ wx (hsl.below hb) (by rw [List.length_take, List.length_drop, NON.out]; omega)
          rw [lew_mid nonce k (by rw [NON.out]; omega), show 4 * k + 4 - 4 * k = 4 by omega] at hw
          have hnx : u32s (fnon key nonce n (k + 1)) = u32s (fnon key nonce n k) ++ [.int .u32 (V (lew nonce k))] := by rw [fnon_next, u32s_snoc]
          have hfl : (u32s (fnon key nonce n k)).length = k + 13 := by rw [u32s_length, fnon_length]
          obtain ⟨F, hF⟩ : ∃ F, F = u32s (fnon key nonce n k) := ⟨_, rfl⟩
          obtain ⟨x, hxx⟩ : ∃ x, x = lew nonce k := ⟨_, rfl⟩
          have how := hI.f
          rw [← hF] at hnx hfl how
          rw [← hxx] at hnx hw
          have hlt' : (k : Int) < 3 := by omega
          have FL := Lib.hid hfl; have NX := Lib.hid hnx; have OW := Lib.hid how; have CC := Lib.hid hI.c; have DD := Lib.hid hI.d; have RR := Lib.hid hI.r; have BB := Lib.hid hI.b; have HW := Lib.hid hw
          clear hsl hw hnx hfl how hI hF hxx
          go_wp2_with (first | (refine wpList_slice_arr_mid (by rfl) 63 _ _ _ (by rfl) 5 12 Tryd.underlying63 infoB (w.heap.size + 1) (4 * k) (4 * k + 4) (by rfl) (by exact congrArg (Value.int .i64) (by omega)) (by exact congrArg (Value.int .i64) (by omega)) (by omega) (by omega) (by omega) ?_))
          refine (HW.out _ (Below.refl _ _)).mono ?_
          rintro e w' ⟨rfl, hb⟩
          have OW2 := Lib.hid (OW.out.below hb); have CC2 := Lib.hid (CC.out.below hb CC.out.lt); have DD2 := Lib.hid (DD.out.below hb DD.out.lt); have RR2 := Lib.hid (RR.out.below hb RR.out.lt); have BB2 := Lib.hid (BB.out.trans (hb.mono BB.out.size))
          clear hb HW OW CC DD RR BB
          go_wp2_with (first | (at_builtin; refine wpList_append_lit (by rfl) _ _ 96 (by rfl) (.int .u32 (V x)) (.int .u32 0) 4 elemW4 (by rfl) (by rfl) OW2.out (by rfl) (by rfl) (by rw [FL.out]; omega) (by rw [FL.out]; omega) (by have := RR2.out.lt; omega) ?_; intro v' w' ho' _ hb' _; have OW3 := Lib.hid ho'; have CC3 := Lib.hid (CC2.out.below hb' (by omega)); have DD3 := Lib.hid (DD2.out.below hb' (by omega)); have RR3 := Lib.hid (RR2.out.below hb' (by omega)); have BB3 := Lib.hid (BB2.out.trans (hb'.mono (by omega))); clear ho' hb'))
          go_roundw
          case rel => exact ⟨k + 1, by omega, by go_num, ⟨CC3.out, DD3.out, RR3.out, by rw [NX.out]; exact OW3.out, BB3.out⟩⟩
          case measure => simp [intOf]; omega
        · have hk3 : k = 3 := by omega
          rw [hk3, fnon_all] at hI
          have hge : ¬ (k : Int) < 3 := by omega
          obtain ⟨cf, hcf⟩ : ∃ cf, cf = cfirst key nonce n := ⟨_, rfl⟩
          rw [← hcf] at hI
          have lcf : cf.length = 16 := by rw [hcf]; exact cfirst_length _ _ _
          obtain ⟨bf, capf, Jf, rfl, hcapf, hbf, hfa⟩ := own_cells hI.f (by intro h0; have h1 := congrArg List.length h0; rw [u32s_length, lcf] at h1; cases h1)
          have hrd := hI.f.rd
          have hfl : (u32s cf).length = 16 := by rw [u32s_length, lcf]
          have hfc := u32s_cells cf
          obtain ⟨U, hU⟩ : ∃ U, U = u32s cf := ⟨_, rfl⟩
          rw [← hU] at hrd hfl hfc hcapf ⊢
          rw [hfl] at hrd hcapf ⊢
          have RD := Lib.hid hrd; have UL := Lib.hid hfl; have UC := Lib.hid hfc; have HU := Lib.hid hU; have FA := Lib.hid hfa; have RR := Lib.hid hI.r; have BB := Lib.hid hI.b; have LCF := Lib.hid lcf; have HCF := Lib.hid hcf; have BF := Lib.hid hbf
          clear hI hk3 hlt hk hcf lcf hrd hfl hfc hU hfa hbf WORD HC HD
          go_wp2_with (first | (at_builtin; refine wpList_append_rd (B := wr.heap.size) (by rfl) _ _ 96 (by rfl) _ U (.int .u32 0) 4 elemW4 (by rfl) (by rfl) (OwnV.nil _ _ _) (by rfl) RD.out UC.out (by rw [UL.out]; decide) (by rw [UL.out]; decide) (Nat.le_refl _) ?_; intro v5 w5 ho5 _ hb5 _; have OV := Lib.hid ho5; have FA5 := Lib.hid (FA.out.below hb5 FA.out.lt); have RR5 := Lib.hid (RR.out.below hb5 RR.out.lt); have BB5 := Lib.hid (BB.out.trans (hb5.mono BB.out.size)); clear ho5 hb5))
          obtain ⟨bw, capw, Jw, rfl, hcapw, hbw, hwa⟩ := own_cells OV.out (by intro h0; have h1 := congrArg List.length h0; rw [List.nil_append, UL.out] at h1; cases h1)
          rw [List.nil_append] at hcapw hwa
          rw [List.nil_append, UL.out]
          rw [UL.out] at hcapw
          rw [HU.out] at hwa
          have BWF : Hid (bf ≠ bw) := by have := FA.out.lt; show bf ≠ bw; omega
          have BWR : Hid (w.heap.size + 1 + 1 ≠ bw) := by have := RR.out.lt; show w.heap.size + 1 + 1 ≠ bw; omega
          have BWL : Hid (w.heap.size ≤ bw) := Nat.le_trans BB.out.size hbw
          have I3 : Hid (W3 (all8 cf 0) Jw bw w w5 w5) := ⟨hwa, But.refl _ _, BB5.out⟩
          clear hbw hwa OV RD UC FA RR BB HU UL
          generalize wr.heap.size = hs0 at *
          go_loopw [11, 13, 14, 15] (fun i _ _ _ wr => ∃ r : Nat, r ≤ 10 ∧ i = .int .i64 r ∧ W3 (all8 cf r) Jw bw w w5 wr) (fun i _ _ _ _ => 10 - (intOf i).toNat)
          case atStart => exact ⟨0, by omega, rfl, I3.out⟩
          case round =>
            clear I3
            obtain ⟨r, hr, rfl, hI⟩ := hrel
            by_cases hlt : r < 10
            · obtain ⟨L, hLL⟩ : ∃ L, L = all8 cf r := ⟨_, rfl⟩
              have hnext : some8 L 8 = all8 cf (r + 1) := by rw [hLL]; rfl
              have lL : L.length = 16 := by rw [hLL, all8_length]; exact LCF.out
              rw [← hLL] at hI
              have II := Lib.hid hI; have NX := Lib.hid hnext; have LL := Lib.hid lL
              have hlt' : (r : Int) < 10 := by omega
              clear hI hnext lL hLL
              go_wp2_with fail
              refine (places_any _).mono ?_
              rintro e w6 ⟨rfl, hp6, hb6⟩
              have O6 := Lib.hid (II.out.o.below hb6)
              have I4 : Hid (W3 (some8 L 0) Jw bw w w6 w6) := ⟨II.out.a.below hb6 II.out.a.lt, But.refl _ _, II.out.b.trans (hb6.mono II.out.b.size)⟩
              have BWP : Hid (bw < wr.heap.size) := II.out.a.lt
              have PL6 := Lib.hid hp6
              clear hp6 hb6 II
              generalize wr.heap.size = pb at *
              go_wp2_with fail
              go_loopw [13, 14, 15, 61] (fun _ _ _ i wr => ∃ m : Nat, m ≤ 8 ∧ i = .int .i64 m ∧ W3 (some8 L m) Jw bw w w6 wr) (fun _ _ _ i _ => 8 - (intOf i).toNat)
              case atStart => exact ⟨0, by omega, rfl, I4.out⟩
              case round =>
                clear I4
                obtain ⟨m, hm, rfl, hI⟩ := hrel
                by_cases hlt2 : m < 8
                · obtain ⟨_, p2, p3⟩ := plc_row m hlt2
                  have hnx : some8 L (m + 1) = qpl (some8 L m) (plc.getD m []) := some8_next L m hlt2
                  have l8 : (some8 L m).length = 16 := by rw [some8_length L m (by omega)]; exact LL.out
                  have hpm : At wr (pb + m) (ints (plc.getD m [])).toArray 3 := (PL6.out.2 m hlt2).but hI.o (by have := BWP.out; omega)
                  have hc8 : wr.cell? ⟨pb + 8, m, none⟩ = some (.slice (some ⟨pb + m, 0, none⟩) 4 4) := by
                    rw [(PL6.out.1.but hI.o (by have := BWP.out; omega)).cell]; exact plc_cell pb m hlt2
                  obtain ⟨M, hMM⟩ : ∃ M, M = some8 L m := ⟨_, rfl⟩
                  obtain ⟨p, hp⟩ : ∃ p, p = plc.getD m [] := ⟨_, rfl⟩
                  rw [← hMM, ← hp] at hnx
                  rw [← hMM] at l8 hI
                  rw [← hp] at p2 p3 hpm
                  have q0 := p3 0 (by decide); have q1 := p3 1 (by decide); have q2 := p3 2 (by decide); have q3 := p3 3 (by decide)
                  have g0 : (ints p).toArray[0]? = some (.int .i64 ((p.getD 0 0 : Nat) : Int)) := by rw [List.getElem?_toArray]; exact ints_get p 0 (by omega)
                  have g1 : (ints p).toArray[1]? = some (.int .i64 ((p.getD 1 0 : Nat) : Int)) := by rw [List.getElem?_toArray]; exact ints_get p 1 (by omega)
                  have g2 : (ints p).toArray[2]? = some (.int .i64 ((p.getD 2 0 : Nat) : Int)) := by rw [List.getElem?_toArray]; exact ints_get p 2 (by omega)
                  have g3 : (ints p).toArray[3]? = some (.int .i64 ((p.getD 3 0 : Nat) : Int)) := by rw [List.getElem?_toArray]; exact ints_get p 3 (by omega)
                  have y0 := app_get M Jw (0 + p.getD 0 0) (by omega); have y1 := app_get M Jw (0 + p.getD 1 0) (by omega); have y2 := app_get M Jw (0 + p.getD 2 0) (by omega); have y3 := app_get M Jw (0 + p.getD 3 0) (by omega)
                  have hq : qin M p = ⟨M.getD (0 + p.getD 0 0) 0, M.getD (0 + p.getD 1 0) 0, M.getD (0 + p.getD 2 0) 0, M.getD (0 + p.getD 3 0) 0⟩ := by simp only [Nat.zero_add]; rfl
                  obtain ⟨x0, hx0⟩ : ∃ x, x = M.getD (0 + p.getD 0 0) 0 := ⟨_, rfl⟩
                  obtain ⟨x1, hx1⟩ : ∃ x, x = M.getD (0 + p.getD 1 0) 0 := ⟨_, rfl⟩
                  obtain ⟨x2, hx2⟩ : ∃ x, x = M.getD (0 + p.getD 2 0) 0 := ⟨_, rfl⟩
                  obtain ⟨x3, hx3⟩ : ∃ x, x = M.getD (0 + p.getD 3 0) 0 := ⟨_, rfl⟩
                  rw [← hx0, ← hx1, ← hx2, ← hx3] at hq
                  rw [← hx0] at y0; rw [← hx1] at y1; rw [← hx2] at y2; rw [← hx3] at y3
                  obtain ⟨p0, hp0⟩ : ∃ q, q = p.getD 0 0 := ⟨_, rfl⟩
                  obtain ⟨p1, hp1⟩ : ∃ q, q = p.getD 1 0 := ⟨_, rfl⟩
                  obtain ⟨pp2, hp2⟩ : ∃ q, q = p.getD 2 0 := ⟨_, rfl⟩
                  obtain ⟨pp3, hp3⟩ : ∃ q, q = p.getD 3 0 := ⟨_, rfl⟩
                  rw [← hp0] at q0 g0 y0; rw [← hp1] at q1 g1 y1; rw [← hp2] at q2 g2 y2; rw [← hp3] at q3 g3 y3
                  have hbd := build_q x0 x1 x2 x3
                  have hqu := fun wx => rquarter_any (qin M p) wx
                  rw [hq] at hqu
                  obtain ⟨K, hK⟩ : ∃ K, K = qOf ⟨x0, x1, x2, x3⟩ := ⟨_, rfl⟩
                  have hbd2 : ∀ wx, (Instr.build 112 #[(0, .int .u32 (V x0)), (1, .int .u32 (V x1)), (2, .int .u32 (V x2)), (3, .int .u32 (V x3))]).run Tryd.prog wx = .ok (.agg K) wx := fun wx => by rw [hK]; exact hbd wx
                  obtain ⟨G, hG⟩ : ∃ G, G = qOf (qr (qin M p)) := ⟨_, rfl⟩
                  rw [← hK, ← hq, ← hG] at hqu
                  have hGs : G.size = 4 := by rw [hG]; rfl
                  have hGo : G.all (·.oneCell') = true := by rw [hG]; exact qOf_one _
                  obtain ⟨Q, hQ⟩ : ∃ Q, Q = (qr (qin M p)).list := ⟨_, rfl⟩
                  have gj : ∀ j, j < 4 → G[j]? = some (.int .u32 (V (Q.getD j 0))) := by rw [hG, hQ]; exact qOf_get _
                  have hend : qset M p Q 4 = some8 L (m + 1) := by rw [hQ, hnx]; exact qset_all M p
                  obtain ⟨Z, hZ⟩ : ∃ Z, Z = Z4 := ⟨_, rfl⟩
                  have hal := run_allocQ
                  rw [← hZ] at hal
                  have hZs : Z.size = 4 := by rw [hZ]; rfl
                  have II := Lib.hid hI; have PM := Lib.hid hpm; have P0 := Lib.hid g0; have P1 := Lib.hid g1; have P2 := Lib.hid g2; have P3 := Lib.hid g3; have X0 := Lib.hid y0; have X1 := Lib.hid y1; have X2 := Lib.hid y2; have X3 := Lib.hid y3
                  have BLD := Lib.hid hbd2; have QU := Lib.hid hqu; have GS := Lib.hid hGs; have GO := Lib.hid hGo; have GJ := Lib.hid gj; have EN := Lib.hid hend; have ALL := Lib.hid hal; have ZS := Lib.hid hZs; have HP2 := Lib.hid p2; have HP3 := Lib.hid p3; have LM := Lib.hid l8
                  have hlt3 : (m : Int) < 8 := by omega
                  clear hI hpm g0 g1 g2 g3 y0 y1 y2 y3 hbd hbd2 hqu hGs hGo gj hend hal hZs hZ hQ hG hK hq hx0 hx1 hx2 hx3 hp0 hp1 hp2 hp3 hnx p2 p3 l8 hMM hp
                  go_wp2_with fail
                  clear hc8
                  go_cut [14] (fun x wx => OneAtQ wr G 112 x wx)
                  case first =>
                    refine wp_region_plan ((.take 0 (.take 1 (.take 2 (.take 3 (.take 4 (.take 5 (.take 6 (.take 7 (.take 8 (.take 9 (.take 10 (.take 11 (.take 12 (.take 13 (.take 14 (.take 15 (.take 16 (.take 17 (.take 18 (.take 19 (.take 20 (.take 21 (.take 22 (.take 23 (.take 24 (.two 25 26 (.sole 26 (.sole 27 .done)) (.sole 25 (.sole 27 .done))))))))))))))))))))))))))))) (by kernel_rfl) (by kernel_rfl) (by kernel_rfl) ?_
                    (first | (refine plan_move _ _ (by rfl) (by rfl) (.inl (by rfl)) (by first | (with_reducible exact Mem.ev_const _ _) | (with_reducible exact Mem.ev_zero _ _ _) | (with_reducible (apply Eq.trans (Mem.ev_tmp _ _ _)); simp only [List.getD_cons_succ, List.getD_cons_zero] <;> rfl)) ?_) | (refine plan_move _ _ (by rfl) (by rfl) (.inr (by rfl)) (by first | (with_reducible exact Mem.ev_const _ _) | (with_reducible exact Mem.ev_zero _ _ _) | (with_reducible (apply Eq.trans (Mem.ev_tmp _ _ _)); simp only [List.getD_cons_succ, List.getD_cons_zero] <;> rfl)) ?_) | (refine plan_pick_t _ _ _ _ (by rfl) (by rfl) (by rfl) (by first | (with_reducible exact Mem.ev_const _ _) | (with_reducible exact Mem.ev_zero _ _ _) | (with_reducible (apply Eq.trans (Mem.ev_tmp _ _ _)); simp only [List.getD_cons_succ, List.getD_cons_zero] <;> rfl)) (by first | (with_reducible exact Mem.ev_const _ _) | (with_reducible exact Mem.ev_zero _ _ _) | (with_reducible (apply Eq.trans (Mem.ev_tmp _ _ _)); simp only [List.getD_cons_succ, List.getD_cons_zero] <;> rfl)) ?_) | (refine plan_pick_f _ _ _ _ (by rfl) (by rfl) (by rfl) (by first | (with_reducible exact Mem.ev_const _ _) | (with_reducible exact Mem.ev_zero _ _ _) | (with_reducible (apply Eq.trans (Mem.ev_tmp _ _ _)); simp only [List.getD_cons_succ, List.getD_cons_zero] <;> rfl)) (by first | (with_reducible exact Mem.ev_const _ _) | (with_reducible exact Mem.ev_zero _ _ _) | (with_reducible (apply Eq.trans (Mem.ev_tmp _ _ _)); simp only [List.getD_cons_succ, List.getD_cons_zero] <;> rfl)) ?_))
                    (simp only [Act.put, List.setIfInBounds_toArray, List.set_cons_zero, List.set_cons_succ])
                    (first | (refine plan_move _ _ (by rfl) (by rfl) (.inl (by rfl)) (by first | (with_reducible exact Mem.ev_const _ _) | (with_reducible exact Mem.ev_zero _ _ _) | (with_reducible (apply Eq.trans (Mem.ev_tmp _ _ _)); simp only [List.getD_cons_succ, List.getD_cons_zero] <;> rfl)) ?_) | (refine plan_move _ _ (by rfl) (by rfl) (.inr (by rfl)) (by first | (with_reducible exact Mem.ev_const _ _) | (with_reducible exact Mem.ev_zero _ _ _) | (with_reducible (apply Eq.trans (Mem.ev_tmp _ _ _)); simp only [List.getD_cons_succ, List.getD_cons_zero] <;> rfl)) ?_) | (refine plan_pick_t _ _ _ _ (by rfl) (by rfl) (by rfl) (by first | (with_reducible exact Mem.ev_const _ _) | (with_reducible exact Mem.ev_zero _ _ _) | (with_reducible (apply Eq.trans (Mem.ev_tmp _ _ _)); simp only [List.getD_cons_succ, List.getD_cons_zero] <;> rfl)) (by first | (with_reducible exact Mem.ev_const _ _) | (with_reducible exact Mem.ev_zero _ _ _) | (with_reducible (apply Eq.trans (Mem.ev_tmp _ _ _)); simp only [List.getD_cons_succ, List.getD_cons_zero] <;> rfl)) ?_) | (refine plan_pick_f _ _ _ _ (by rfl) (by rfl) (by rfl) (by first | (with_reducible exact Mem.ev_const _ _) | (with_reducible exact Mem.ev_zero _ _ _) | (with_reducible (apply Eq.trans (Mem.ev_tmp _ _ _)); simp only [List.getD_cons_succ, List.getD_cons_zero] <;> rfl)) (by first | (with_reducible exact Mem.ev_const _ _) | (with_reducible exact Mem.ev_zero _ _ _) | (with_reducible (apply Eq.trans (Mem.ev_tmp _ _ _)); simp only [List.getD_cons_succ, List.getD_cons_zero] <;> rfl)) ?_))
                    (simp only [Act.put, List.setIfInBounds_toArray, List.set_cons_zero, List.set_cons_succ])
                    refine plan_index 111 3 _ _ (pb + m) 0 4 4 0 (by rfl) (by rfl) (by rfl) (by first | (with_reducible exact Mem.ev_const _ _) | (with_reducible exact Mem.ev_zero _ _ _) | (with_reducible (apply Eq.trans (Mem.ev_tmp _ _ _)); simp only [List.getD_cons_succ, List.getD_cons_zero] <;> rfl)) (by rfl) (by omega) Tryd.underlying111 (by kernel_rfl) ?_
                    (simp only [Act.put, List.setIfInBounds_toArray, List.set_cons_zero, List.set_cons_succ])
                    refine plan_cell 3 _ _ _ _ (by rfl) (by rfl) (by rfl) (by first | (with_reducible exact Mem.ev_const _ _) | (with_reducible exact Mem.ev_zero _ _ _) | (with_reducible (apply Eq.trans (Mem.ev_tmp _ _ _)); simp only [List.getD_cons_succ, List.getD_cons_zero] <;> rfl)) (fun w' hw' => ((PM.out.below hw' PM.out.lt).cell _).trans P0.out) Tryd.underlying3 (by rfl) ?_
                    (simp only [Act.put, List.setIfInBounds_toArray, List.set_cons_zero, List.set_cons_succ])
                    refine plan_index 96 65 _ _ bw 0 16 capw p0 (by rfl) (by rfl) (by rfl) (by first | (with_reducible exact Mem.ev_const _ _) | (with_reducible exact Mem.ev_zero _ _ _) | (with_reducible (apply Eq.trans (Mem.ev_tmp _ _ _)); simp only [List.getD_cons_succ, List.getD_cons_zero] <;> rfl)) (by first | (with_reducible exact Mem.ev_const _ _) | (with_reducible exact Mem.ev_zero _ _ _) | (with_reducible (apply Eq.trans (Mem.ev_tmp _ _ _)); simp only [List.getD_cons_succ, List.getD_cons_zero] <;> rfl)) (by omega) Tryd.underlying96 (by kernel_rfl) ?_
                    (simp only [Act.put, List.setIfInBounds_toArray, List.set_cons_zero, List.set_cons_succ])
                    refine plan_cell 65 _ _ _ _ (by rfl) (by rfl) (by rfl) (by first | (with_reducible exact Mem.ev_const _ _) | (with_reducible exact Mem.ev_zero _ _ _) | (with_reducible (apply Eq.trans (Mem.ev_tmp _ _ _)); simp only [List.getD_cons_succ, List.getD_cons_zero] <;> rfl)) (fun w' hw' => ((II.out.a.below hw' II.out.a.lt).cell _).trans X0.out) Tryd.underlying65 (by rfl) ?_
                    (simp only [Act.put, List.setIfInBounds_toArray, List.set_cons_zero, List.set_cons_succ])
                    (first | (refine plan_move _ _ (by rfl) (by rfl) (.inl (by rfl)) (by first | (with_reducible exact Mem.ev_const _ _) | (with_reducible exact Mem.ev_zero _ _ _) | (with_reducible (apply Eq.trans (Mem.ev_tmp _ _ _)); simp only [List.getD_cons_succ, List.getD_cons_zero] <;> rfl)) ?_) | (refine plan_move _ _ (by rfl) (by rfl) (.inr (by rfl)) (by first | (with_reducible exact Mem.ev_const _ _) | (with_reducible exact Mem.ev_zero _ _ _) | (with_reducible (apply Eq.trans (Mem.ev_tmp _ _ _)); simp only [List.getD_cons_succ, List.getD_cons_zero] <;> rfl)) ?_) | (refine plan_pick_t _ _ _ _ (by rfl) (by rfl) (by rfl) (by first | (with_reducible exact Mem.ev_const _ _) | (with_reducible exact Mem.ev_zero _ _ _) | (with_reducible (apply Eq.trans (Mem.ev_tmp _ _ _)); simp only [List.getD_cons_succ, List.getD_cons_zero] <;> rfl)) (by first | (with_reducible exact Mem.ev_const _ _) | (with_reducible exact Mem.ev_zero _ _ _) | (with_reducible (apply Eq.trans (Mem.ev_tmp _ _ _)); simp only [List.getD_cons_succ, List.getD_cons_zero] <;> rfl)) ?_) | (refine plan_pick_f _ _ _ _ (by rfl) (by rfl) (by rfl) (by first | (with_reducible exact Mem.ev_const _ _) | (with_reducible exact Mem.ev_zero _ _ _) | (with_reducible (apply Eq.trans (Mem.ev_tmp _ _ _)); simp only [List.getD_cons_succ, List.getD_cons_zero] <;> rfl)) (by first | (with_reducible exact Mem.ev_const _ _) | (with_reducible exact Mem.ev_zero _ _ _) | (with_reducible (apply Eq.trans (Mem.ev_tmp _ _ _)); simp only [List.getD_cons_succ, List.getD_cons_zero] <;> rfl)) ?_))
                    (simp only [Act.put, List.setIfInBounds_toArray, List.set_cons_zero, List.set_cons_succ])
                    (first | (refine plan_move _ _ (by rfl) (by rfl) (.inl (by rfl)) (by first | (with_reducible exact Mem.ev_const _ _) | (with_reducible exact Mem.ev_zero _ _ _) | (with_reducible (apply Eq.trans (Mem.ev_tmp _ _ _)); simp only [List.getD_cons_succ, List.getD_cons_zero] <;> rfl)) ?_) | (refine plan_move _ _ (by rfl) (by rfl) (.inr (by rfl)) (by first | (with_reducible exact Mem.ev_const _ _) | (with_reducible exact Mem.ev_zero _ _ _) | (with_reducible (apply Eq.trans (Mem.ev_tmp _ _ _)); simp only [List.getD_cons_succ, List.getD_cons_zero] <;> rfl)) ?_) | (refine plan_pick_t _ _ _ _ (by rfl) (by rfl) (by rfl) (by first | (with_reducible exact Mem.ev_const _ _) | (with_reducible exact Mem.ev_zero _ _ _) | (with_reducible (apply Eq.trans (Mem.ev_tmp _ _ _)); simp only [List.getD_cons_succ, List.getD_cons_zero] <;> rfl)) (by first | (with_reducible exact Mem.ev_const _ _) | (with_reducible exact Mem.ev_zero _ _ _) | (with_reducible (apply Eq.trans (Mem.ev_tmp _ _ _)); simp only [List.getD_cons_succ, List.getD_cons_zero] <;> rfl)) ?_) | (refine plan_pick_f _ _ _ _ (by rfl) (by rfl) (by rfl) (by first | (with_reducible exact Mem.ev_const _ _) | (with_reducible exact Mem.ev_zero _ _ _) | (with_reducible (apply Eq.trans (Mem.ev_tmp _ _ _)); simp only [List.getD_cons_succ, List.getD_cons_zero] <;> rfl)) (by first | (with_reducible exact Mem.ev_const _ _) | (with_reducible exact Mem.ev_zero _ _ _) | (with_reducible (apply Eq.trans (Mem.ev_tmp _ _ _)); simp only [List.getD_cons_succ, List.getD_cons_zero] <;> rfl)) ?_))
                    (simp only [Act.put, List.setIfInBounds_toArray, List.set_cons_zero, List.set_cons_succ])
                    refine plan_index 111 3 _ _ (pb + m) 0 4 4 1 (by rfl) (by rfl) (by rfl) (by first | (with_reducible exact Mem.ev_const _ _) | (with_reducible exact Mem.ev_zero _ _ _) | (with_reducible (apply Eq.trans (Mem.ev_tmp _ _ _)); simp only [List.getD_cons_succ, List.getD_cons_zero] <;> rfl)) (by rfl) (by omega) Tryd.underlying111 (by kernel_rfl) ?_
                    (simp only [Act.put, List.setIfInBounds_toArray, List.set_cons_zero, List.set_cons_succ])
                    refine plan_cell 3 _ _ _ _ (by rfl) (by rfl) (by rfl) (by first | (with_reducible exact Mem.ev_const _ _) | (with_reducible exact Mem.ev_zero _ _ _) | (with_reducible (apply Eq.trans (Mem.ev_tmp _ _ _)); simp only [List.getD_cons_succ, List.getD_cons_zero] <;> rfl)) (fun w' hw' => ((PM.out.below hw' PM.out.lt).cell _).trans P1.out) Tryd.underlying3 (by rfl) ?_
                    (simp only [Act.put, List.setIfInBounds_toArray, List.set_cons_zero, List.set_cons_succ])
                    refine plan_index 96 65 _ _ bw 0 16 capw p1 (by rfl) (by rfl) (by rfl) (by first | (with_reducible exact Mem.ev_const _ _) | (with_reducible exact Mem.ev_zero _ _ _) | (with_reducible (apply Eq.trans (Mem.ev_tmp _ _ _)); simp only [List.getD_cons_succ, List.getD_cons_zero] <;> rfl)) (by first | (with_reducible exact Mem.ev_const _ _) | (with_reducible exact Mem.ev_zero _ _ _) | (with_reducible (apply Eq.trans (Mem.ev_tmp _ _ _)); simp only [List.getD_cons_succ, List.getD_cons_zero] <;> rfl)) (by omega) Tryd.underlying96 (by kernel_rfl) ?_
                    (simp only [Act.put, List.setIfInBounds_toArray, List.set_cons_zero, List.set_cons_succ])
                    refine plan_cell 65 _ _ _ _ (by rfl) (by rfl) (by rfl) (by first | (with_reducible exact Mem.ev_const _ _) | (with_reducible exact Mem.ev_zero _ _ _) | (with_reducible (apply Eq.trans (Mem.ev_tmp _ _ _)); simp only [List.getD_cons_succ, List.getD_cons_zero] <;> rfl)) (fun w' hw' => ((II.out.a.below hw' II.out.a.lt).cell _).trans X1.out) Tryd.underlying65 (by rfl) ?_
                    (simp only [Act.put, List.setIfInBounds_toArray, List.set_cons_zero, List.set_cons_succ])
                    (first | (refine plan_move _ _ (by rfl) (by rfl) (.inl (by rfl)) (by first | (with_reducible exact Mem.ev_const _ _) | (with_reducible exact Mem.ev_zero _ _ _) | (with_reducible (apply Eq.trans (Mem.ev_tmp _ _ _)); simp only [List.getD_cons_succ, List.getD_cons_zero] <;> rfl)) ?_) | (refine plan_move _ _ (by rfl) (by rfl) (.inr (by rfl)) (by first | (with_reducible exact Mem.ev_const _ _) | (with_reducible exact Mem.ev_zero _ _ _) | (with_reducible (apply Eq.trans (Mem.ev_tmp _ _ _)); simp only [List.getD_cons_succ, List.getD_cons_zero] <;> rfl)) ?_) | (refine plan_pick_t _ _ _ _ (by rfl) (by rfl) (by rfl) (by first | (with_reducible exact Mem.ev_const _ _) | (with_reducible exact Mem.ev_zero _ _ _) | (with_reducible (apply Eq.trans (Mem.ev_tmp _ _ _)); simp only [List.getD_cons_succ, List.getD_cons_zero] <;> rfl)) (by first | (with_reducible exact Mem.ev_const _ _) | (with_reducible exact Mem.ev_zero _ _ _) | (with_reducible (apply Eq.trans (Mem.ev_tmp _ _ _)); simp only [List.getD_cons_succ, List.getD_cons_zero] <;> rfl)) ?_) | (refine plan_pick_f _ _ _ _ (by rfl) (by rfl) (by rfl) (by first | (with_reducible exact Mem.ev_const _ _) | (with_reducible exact Mem.ev_zero _ _ _) | (with_reducible (apply Eq.trans (Mem.ev_tmp _ _ _)); simp only [List.getD_cons_succ, List.getD_cons_zero] <;> rfl)) (by first | (with_reducible exact Mem.ev_const _ _) | (with_reducible exact Mem.ev_zero _ _ _) | (with_reducible (apply Eq.trans (Mem.ev_tmp _ _ _)); simp only [List.getD_cons_succ, List.getD_cons_zero] <;> rfl)) ?_))
                    (simp only [Act.put, List.setIfInBounds_toArray, List.set_cons_zero, List.set_cons_succ])
                    (first | (refine plan_move _ _ (by rfl) (by rfl) (.inl (by rfl)) (by first | (with_reducible exact Mem.ev_const _ _) | (with_reducible exact Mem.ev_zero _ _ _) | (with_reducible (apply Eq.trans (Mem.ev_tmp _ _ _)); simp only [List.getD_cons_succ, List.getD_cons_zero] <;> rfl)) ?_) | (refine plan_move _ _ (by rfl) (by rfl) (.inr (by rfl)) (by first | (with_reducible exact Mem.ev_const _ _) | (with_reducible exact Mem.ev_zero _ _ _) | (with_reducible (apply Eq.trans (Mem.ev_tmp _ _ _)); simp only [List.getD_cons_succ, List.getD_cons_zero] <;> rfl)) ?_) | (refine plan_pick_t _ _ _ _ (by rfl) (by rfl) (by rfl) (by first | (with_reducible exact Mem.ev_const _ _) | (with_reducible exact Mem.ev_zero _ _ _) | (with_reducible (apply Eq.trans (Mem.ev_tmp _ _ _)); simp only [List.getD_cons_succ, List.getD_cons_zero] <;> rfl)) (by first | (with_reducible exact Mem.ev_const _ _) | (with_reducible exact Mem.ev_zero _ _ _) | (with_reducible (apply Eq.trans (Mem.ev_tmp _ _ _)); simp only [List.getD_cons_succ, List.getD_cons_zero] <;> rfl)) ?_) | (refine plan_pick_f _ _ _ _ (by rfl) (by rfl) (by rfl) (by first | (with_reducible exact Mem.ev_const _ _) | (with_reducible exact Mem.ev_zero _ _ _) | (with_reducible (apply Eq.trans (Mem.ev_tmp _ _ _)); simp only [List.getD_cons_succ, List.getD_cons_zero] <;> rfl)) (by first | (with_reducible exact Mem.ev_const _ _) | (with_reducible exact Mem.ev_zero _ _ _) | (with_reducible (apply Eq.trans (Mem.ev_tmp _ _ _)); simp only [List.getD_cons_succ, List.getD_cons_zero] <;> rfl)) ?_))
                    (simp only [Act.put, List.setIfInBounds_toArray, List.set_cons_zero, List.set_cons_succ])
                    refine plan_index 111 3 _ _ (pb + m) 0 4 4 2 (by rfl) (by rfl) (by rfl) (by first | (with_reducible exact Mem.ev_const _ _) | (with_reducible exact Mem.ev_zero _ _ _) | (with_reducible (apply Eq.trans (Mem.ev_tmp _ _ _)); simp only [List.getD_cons_succ, List.getD_cons_zero] <;> rfl)) (by rfl) (by omega) Tryd.underlying111 (by kernel_rfl) ?_
                    (simp only [Act.put, List.setIfInBounds_toArray, List.set_cons_zero, List.set_cons_succ])
                    refine plan_cell 3 _ _ _ _ (by rfl) (by rfl) (by rfl) (by first | (with_reducible exact Mem.ev_const _ _) | (with_reducible exact Mem.ev_zero _ _ _) | (with_reducible (apply Eq.trans (Mem.ev_tmp _ _ _)); simp only [List.getD_cons_succ, List.getD_cons_zero] <;> rfl)) (fun w' hw' => ((PM.out.below hw' PM.out.lt).cell _).trans P2.out) Tryd.underlying3 (by rfl) ?_
                    (simp only [Act.put, List.setIfInBounds_toArray, List.set_cons_zero, List.set_cons_succ])
                    refine plan_index 96 65 _ _ bw 0 16 capw pp2 (by rfl) (by rfl) (by rfl) (by first | (with_reducible exact Mem.ev_const _ _) | (with_reducible exact Mem.ev_zero _ _ _) | (with_reducible (apply Eq.trans (Mem.ev_tmp _ _ _)); simp only [List.getD_cons_succ, List.getD_cons_zero] <;> rfl)) (by first | (with_reducible exact Mem.ev_const _ _) | (with_reducible exact Mem.ev_zero _ _ _) | (with_reducible (apply Eq.trans (Mem.ev_tmp _ _ _)); simp only [List.getD_cons_succ, List.getD_cons_zero] <;> rfl)) (by omega) Tryd.underlying96 (by kernel_rfl) ?_
                    (simp only [Act.put, List.setIfInBounds_toArray, List.set_cons_zero, List.set_cons_succ])
                    refine plan_cell 65 _ _ _ _ (by rfl) (by rfl) (by rfl) (by first | (with_reducible exact Mem.ev_const _ _) | (with_reducible exact Mem.ev_zero _ _ _) | (with_reducible (apply Eq.trans (Mem.ev_tmp _ _ _)); simp only [List.getD_cons_succ, List.getD_cons_zero] <;> rfl)) (fun w' hw' => ((II.out.a.below hw' II.out.a.lt).cell _).trans X2.out) Tryd.underlying65 (by rfl) ?_
                    (simp only [Act.put, List.setIfInBounds_toArray, List.set_cons_zero, List.set_cons_succ])
                    (first | (refine plan_move _ _ (by rfl) (by rfl) (.inl (by rfl)) (by first | (with_reducible exact Mem.ev_const _ _) | (with_reducible exact Mem.ev_zero _ _ _) | (with_reducible (apply Eq.trans (Mem.ev_tmp _ _ _)); simp only [List.getD_cons_succ, List.getD_cons_zero] <;> rfl)) ?_) | (refine plan_move _ _ (by rfl) (by rfl) (.inr (by rfl)) (by first | (with_reducible exact Mem.ev_const _ _) | (with_reducible exact Mem.ev_zero _ _ _) | (with_reducible (apply Eq.trans (Mem.ev_tmp _ _ _)); simp only [List.getD_cons_succ, List.getD_cons_zero] <;> rfl)) ?_) | (refine plan_pick_t _ _ _ _ (by rfl) (by rfl) (by rfl) (by first | (with_reducible exact Mem.ev_const _ _) | (with_reducible exact Mem.ev_zero _ _ _) | (with_reducible (apply Eq.trans (Mem.ev_tmp _ _ _)); simp only [List.getD_cons_succ, List.getD_cons_zero] <;> rfl)) (by first | (with_reducible exact Mem.ev_const _ _) | (with_reducible exact Mem.ev_zero _ _ _) | (with_reducible (apply Eq.trans (Mem.ev_tmp _ _ _)); simp only [List.getD_cons_succ, List.getD_cons_zero] <;> rfl)) ?_) | (refine plan_pick_f _ _ _ _ (by rfl) (by rfl) (by rfl) (by first | (with_reducible exact Mem.ev_const _ _) | (with_reducible exact Mem.ev_zero _ _ _) | (with_reducible (apply Eq.trans (Mem.ev_tmp _ _ _)); simp only [List.getD_cons_succ, List.getD_cons_zero] <;> rfl)) (by first | (with_reducible exact Mem.ev_const _ _) | (with_reducible exact Mem.ev_zero _ _ _) | (with_reducible (apply Eq.trans (Mem.ev_tmp _ _ _)); simp only [List.getD_cons_succ, List.getD_cons_zero] <;> rfl)) ?_))
                    (simp only [Act.put, List.setIfInBounds_toArray, List.set_cons_zero, List.set_cons_succ])
                    (first | (refine plan_move _ _ (by rfl) (by rfl) (.inl (by rfl)) (by first | (with_reducible exact Mem.ev_const _ _) | (with_reducible exact Mem.ev_zero _ _ _) | (with_reducible (apply Eq.trans (Mem.ev_tmp _ _ _)); simp only [List.getD_cons_succ, List.getD_cons_zero] <;> rfl)) ?_) | (refine plan_move _ _ (by rfl) (by rfl) (.inr (by rfl)) (by first | (with_reducible exact Mem.ev_const _ _) | (with_reducible exact Mem.ev_zero _ _ _) | (with_reducible (apply Eq.trans (Mem.ev_tmp _ _ _)); simp only [List.getD_cons_succ, List.getD_cons_zero] <;> rfl)) ?_) | (refine plan_pick_t _ _ _ _ (by rfl) (by rfl) (by rfl) (by first | (with_reducible exact Mem.ev_const _ _) | (with_reducible exact Mem.ev_zero _ _ _) | (with_reducible (apply Eq.trans (Mem.ev_tmp _ _ _)); simp only [List.getD_cons_succ, List.getD_cons_zero] <;> rfl)) (by first | (with_reducible exact Mem.ev_const _ _) | (with_reducible exact Mem.ev_zero _ _ _) | (with_reducible (apply Eq.trans (Mem.ev_tmp _ _ _)); simp only [List.getD_cons_succ, List.getD_cons_zero] <;> rfl)) ?_) | (refine plan_pick_f _ _ _ _ (by rfl) (by rfl) (by rfl) (by first | (with_reducible exact Mem.ev_const _ _) | (with_reducible exact Mem.ev_zero _ _ _) | (with_reducible (apply Eq.trans (Mem.ev_tmp _ _ _)); simp only [List.getD_cons_succ, List.getD_cons_zero] <;> rfl)) (by first | (with_reducible exact Mem.ev_const _ _) | (with_reducible exact Mem.ev_zero _ _ _) | (with_reducible (apply Eq.trans (Mem.ev_tmp _ _ _)); simp only [List.getD_cons_succ, List.getD_cons_zero] <;> rfl)) ?_))
                    (simp only [Act.put, List.setIfInBounds_toArray, List.set_cons_zero, List.set_cons_succ])
                    refine plan_index 111 3 _ _ (pb + m) 0 4 4 3 (by rfl) (by rfl) (by rfl) (by first | (with_reducible exact Mem.ev_const _ _) | (with_reducible exact Mem.ev_zero _ _ _) | (with_reducible (apply Eq.trans (Mem.ev_tmp _ _ _)); simp only [List.getD_cons_succ, List.getD_cons_zero] <;> rfl)) (by rfl) (by omega) Tryd.underlying111 (by kernel_rfl) ?_
                    (simp only [Act.put, List.setIfInBounds_toArray, List.set_cons_zero, List.set_cons_succ])
                    refine plan_cell 3 _ _ _ _ (by rfl) (by rfl) (by rfl) (by first | (with_reducible exact Mem.ev_const _ _) | (with_reducible exact Mem.ev_zero _ _ _) | (with_reducible (apply Eq.trans (Mem.ev_tmp _ _ _)); simp only [List.getD_cons_succ, List.getD_cons_zero] <;> rfl)) (fun w' hw' => ((PM.out.below hw' PM.out.lt).cell _).trans P3.out) Tryd.underlying3 (by rfl) ?_
                    (simp only [Act.put, List.setIfInBounds_toArray, List.set_cons_zero, List.set_cons_succ])
                    refine plan_index 96 65 _ _ bw 0 16 capw pp3 (by rfl) (by rfl) (by rfl) (by first | (with_reducible exact Mem.ev_const _ _) | (with_reducible exact Mem.ev_zero _ _ _) | (with_reducible (apply Eq.trans (Mem.ev_tmp _ _ _)); simp only [List.getD_cons_succ, List.getD_cons_zero] <;> rfl)) (by first | (with_reducible exact Mem.ev_const _ _) | (with_reducible exact Mem.ev_zero _ _ _) | (with_reducible (apply Eq.trans (Mem.ev_tmp _ _ _)); simp only [List.getD_cons_succ, List.getD_cons_zero] <;> rfl)) (by omega) Tryd.underlying96 (by kernel_rfl) ?_
                    (simp only [Act.put, List.setIfInBounds_toArray, List.set_cons_zero, List.set_cons_succ])
                    refine plan_cell 65 _ _ _ _ (by rfl) (by rfl) (by rfl) (by first | (with_reducible exact Mem.ev_const _ _) | (with_reducible exact Mem.ev_zero _ _ _) | (with_reducible (apply Eq.trans (Mem.ev_tmp _ _ _)); simp only [List.getD_cons_succ, List.getD_cons_zero] <;> rfl)) (fun w' hw' => ((II.out.a.below hw' II.out.a.lt).cell _).trans X3.out) Tryd.underlying65 (by rfl) ?_
                    (simp only [Act.put, List.setIfInBounds_toArray, List.set_cons_zero, List.set_cons_succ])
                    refine plan_build _ _ #[(0, .int .u32 (V x0)), (1, .int .u32 (V x1)), (2, .int .u32 (V x2)), (3, .int .u32 (V x3))] (.agg K) (by rfl) (by rfl) (by rfl) (by simp only [List.map_toArray, List.map_cons, List.map_nil, Mem.ev_tmp, List.getD_cons_succ, List.getD_cons_zero]) BLD.out ?_
                    (simp only [Act.put, List.setIfInBounds_toArray, List.set_cons_zero, List.set_cons_succ])
                    have B : Hid (Below wr.heap.size wr wr.drew) := (Below.refl _ _).drew
                    generalize wr.drew = W at *
                    repeat' (first
                      | (refine plan_two ?_ ?_)
                      | (refine plan_call (i := 25) 72 _ _ #[.agg K] (by kernel_rfl) (by rfl) (by rfl) (by rfl) (by first | exact Mem.ev_none _ | (simp only [List.map_toArray, List.map_cons, List.map_nil, Mem.ev_tmp, List.getD_cons_succ, List.getD_cons_zero] <;> rfl)) ?_
                         refine (QU.out _).mono ?_
                         rintro e W ⟨rfl, hbn⟩
                         have B := Lib.hid (B.out.trans (hbn.mono B.out.size))
                         (try (have A8 := Lib.hid (A8.out.below hbn A8.out.lt)))
                         clear hbn
                         refine ⟨_, rfl, B.out, ?_⟩
                         (simp only [Act.put, List.setIfInBounds_toArray, List.set_cons_zero, List.set_cons_succ]))
                      | (refine plan_alloc_any (i := 26) 112 Z (by rfl) (by rfl) (by rfl) ALL.out (fun W' h => h _ _ B.out B.out.size) ?_
                         intro b8 W ha hlo _ hbb
                         have LO8 := Lib.hid (Nat.le_trans B.out.size hlo)
                         have B := Lib.hid (hbb _ _ B.out B.out.size)
                         have A8 := Lib.hid ha
                         clear ha hlo hbb
                         (simp only [Act.put, List.setIfInBounds_toArray, List.set_cons_zero, List.set_cons_succ]))
                      | (refine plan_store_any (i := 27) 112 _ _ b8 G Z 112 (by rfl) (by rfl) (by rfl) (by rfl) (by rfl) (by rfl) (by rw [GS.out]; exact infoQ) A8.out (by rw [GS.out, ZS.out]) GO.out (fun W' h => h _ _ B.out LO8.out) ?_
                         intro W ha _ hbb
                         have B := Lib.hid (hbb _ _ B.out LO8.out)
                         have A8 := Lib.hid ha
                         clear ha hbb))
                    all_goals (refine plan_nil ?_; go_wp2_with fail; go_meet; exact ⟨b8, rfl, LO8.out, A8.out, B.out⟩)
                  case rest =>
                    obtain ⟨b14, rfl, hlo, hat, hb⟩ := hcut
                    have QA0 := Lib.hid hat; have PM0 := Lib.hid (PM.out.below hb PM.out.lt)
                    have I5 : Hid (W3 (qset M p Q 0) Jw bw w wc wc) := ⟨II.out.a.below hb II.out.a.lt, But.refl _ _, II.out.b.trans (hb.mono II.out.b.size)⟩
                    have O7 := Lib.hid (II.out.o.below hb)
                    have QN : Hid (b14 ≠ bw) := by have := II.out.a.lt; show b14 ≠ bw; omega
                    have PN : Hid (pb + m ≠ bw) := by have := BWP.out; show pb + m ≠ bw; omega
                    clear hlo hat hb II PM P0 P1 P2 P3 X0 X1 X2 X3 BLD QU GS GO ALL ZS
                    go_wp2_with fail
                    go_loopw [15] (fun i wr => ∃ k : Nat, k ≤ 4 ∧ i = .int .i64 k ∧ W3 (qset M p Q k) Jw bw w wc wr) (fun i _ => 4 - (intOf i).toNat)
                    case atStart => exact ⟨0, by omega, rfl, I5.out⟩
                    case round =>
                      clear I5
                      obtain ⟨k, hk, rfl, hI⟩ := hrel
                      by_cases hlt4 : k < 4
                      · obtain ⟨q, hq⟩ : ∃ q, q = p.getD k 0 := ⟨_, rfl⟩
                        obtain ⟨y, hy⟩ : ∃ y, y = Q.getD k 0 := ⟨_, rfl⟩
                        have q16 := HP3.out k hlt4
                        have gq := GJ.out k hlt4
                        have pq : (ints p).toArray[0 + k]? = some (.int .i64 ((p.getD k 0 : Nat) : Int)) := by rw [Nat.zero_add, List.getElem?_toArray]; exact ints_get p k (by rw [HP2.out]; exact hlt4)
                        have lq : (qset M p Q k).length = 16 := by rw [qset_length]; exact LM.out
                        have hset : (u32s (qset M p Q k) ++ Jw).toArray.setIfInBounds (0 + q) (.int .u32 (V y)) = (u32s (qset M p Q (k + 1)) ++ Jw).toArray := by
                          rw [Nat.zero_add, app_set _ _ _ _ (by rw [lq, hq]; exact q16), hq, hy]; rfl
                        have hsz : 0 + q < (u32s (qset M p Q k) ++ Jw).toArray.size := by rw [app_size, lq, hq]; omega
                        rw [← hq] at q16 pq; rw [← hy] at gq
                        have hk5 := hI.a
                        obtain ⟨E, hE⟩ : ∃ E, E = (u32s (qset M p Q k) ++ Jw).toArray := ⟨_, rfl⟩
                        rw [← hE] at hset hsz hk5
                        have GQ := Lib.hid gq; have PQ := Lib.hid pq; have ST := Lib.hid hset; have SZ := Lib.hid hsz; have KK := Lib.hid hk5; have OO := Lib.hid hI.o; have B5 := Lib.hid hI.b
                        have QA := Lib.hid (QA0.out.but hI.o QN.out); have PM := Lib.hid (PM0.out.but hI.o PN.out)
                        have hlt5 : (k : Int) < 4 := by omega
                        clear hI gq pq lq hset hsz hq hy hk5 hE
                        go_wp2_with fail
                        refine wp_region_plan_in (fun w' => But bw wr w') ((.take 0 (.take 1 (.take 2 (.take 3 (.take 4 (.take 5 (.take 6 (.take 7 (.take 8 (.sole 9 .done))))))))))) (by kernel_rfl) (by kernel_rfl) (by kernel_rfl) ⟨Nat.le_refl _, fun _ _ _ => rfl⟩ ?_
                        (first | (refine plan_move _ _ (by rfl) (by rfl) (.inl (by rfl)) (by first | (with_reducible exact Mem.ev_const _ _) | (with_reducible exact Mem.ev_zero _ _ _) | (with_reducible (apply Eq.trans (Mem.ev_tmp _ _ _)); simp only [List.getD_cons_succ, List.getD_cons_zero] <;> rfl)) ?_) | (refine plan_move _ _ (by rfl) (by rfl) (.inr (by rfl)) (by first | (with_reducible exact Mem.ev_const _ _) | (with_reducible exact Mem.ev_zero _ _ _) | (with_reducible (apply Eq.trans (Mem.ev_tmp _ _ _)); simp only [List.getD_cons_succ, List.getD_cons_zero] <;> rfl)) ?_) | (refine plan_pick_t _ _ _ _ (by rfl) (by rfl) (by rfl) (by first | (with_reducible exact Mem.ev_const _ _) | (with_reducible exact Mem.ev_zero _ _ _) | (with_reducible (apply Eq.trans (Mem.ev_tmp _ _ _)); simp only [List.getD_cons_succ, List.getD_cons_zero] <;> rfl)) (by first | (with_reducible exact Mem.ev_const _ _) | (with_reducible exact Mem.ev_zero _ _ _) | (with_reducible (apply Eq.trans (Mem.ev_tmp _ _ _)); simp only [List.getD_cons_succ, List.getD_cons_zero] <;> rfl)) ?_) | (refine plan_pick_f _ _ _ _ (by rfl) (by rfl) (by rfl) (by first | (with_reducible exact Mem.ev_const _ _) | (with_reducible exact Mem.ev_zero _ _ _) | (with_reducible (apply Eq.trans (Mem.ev_tmp _ _ _)); simp only [List.getD_cons_succ, List.getD_cons_zero] <;> rfl)) (by first | (with_reducible exact Mem.ev_const _ _) | (with_reducible exact Mem.ev_zero _ _ _) | (with_reducible (apply Eq.trans (Mem.ev_tmp _ _ _)); simp only [List.getD_cons_succ, List.getD_cons_zero] <;> rfl)) ?_))
                        (simp only [Act.put, List.setIfInBounds_toArray, List.set_cons_zero, List.set_cons_succ])
                        (first | (refine plan_move _ _ (by rfl) (by rfl) (.inl (by rfl)) (by first | (with_reducible exact Mem.ev_const _ _) | (with_reducible exact Mem.ev_zero _ _ _) | (with_reducible (apply Eq.trans (Mem.ev_tmp _ _ _)); simp only [List.getD_cons_succ, List.getD_cons_zero] <;> rfl)) ?_) | (refine plan_move _ _ (by rfl) (by rfl) (.inr (by rfl)) (by first | (with_reducible exact Mem.ev_const _ _) | (with_reducible exact Mem.ev_zero _ _ _) | (with_reducible (apply Eq.trans (Mem.ev_tmp _ _ _)); simp only [List.getD_cons_succ, List.getD_cons_zero] <;> rfl)) ?_) | (refine plan_pick_t _ _ _ _ (by rfl) (by rfl) (by rfl) (by first | (with_reducible exact Mem.ev_const _ _) | (with_reducible exact Mem.ev_zero _ _ _) | (with_reducible (apply Eq.trans (Mem.ev_tmp _ _ _)); simp only [List.getD_cons_succ, List.getD_cons_zero] <;> rfl)) (by first | (with_reducible exact Mem.ev_const _ _) | (with_reducible exact Mem.ev_zero _ _ _) | (with_reducible (apply Eq.trans (Mem.ev_tmp _ _ _)); simp only [List.getD_cons_succ, List.getD_cons_zero] <;> rfl)) ?_) | (refine plan_pick_f _ _ _ _ (by rfl) (by rfl) (by rfl) (by first | (with_reducible exact Mem.ev_const _ _) | (with_reducible exact Mem.ev_zero _ _ _) | (with_reducible (apply Eq.trans (Mem.ev_tmp _ _ _)); simp only [List.getD_cons_succ, List.getD_cons_zero] <;> rfl)) (by first | (with_reducible exact Mem.ev_const _ _) | (with_reducible exact Mem.ev_zero _ _ _) | (with_reducible (apply Eq.trans (Mem.ev_tmp _ _ _)); simp only [List.getD_cons_succ, List.getD_cons_zero] <;> rfl)) ?_))
                        (simp only [Act.put, List.setIfInBounds_toArray, List.set_cons_zero, List.set_cons_succ])
                        (first | (refine plan_move _ _ (by rfl) (by rfl) (.inl (by rfl)) (by first | (with_reducible exact Mem.ev_const _ _) | (with_reducible exact Mem.ev_zero _ _ _) | (with_reducible (apply Eq.trans (Mem.ev_tmp _ _ _)); simp only [List.getD_cons_succ, List.getD_cons_zero] <;> rfl)) ?_) | (refine plan_move _ _ (by rfl) (by rfl) (.inr (by rfl)) (by first | (with_reducible exact Mem.ev_const _ _) | (with_reducible exact Mem.ev_zero _ _ _) | (with_reducible (apply Eq.trans (Mem.ev_tmp _ _ _)); simp only [List.getD_cons_succ, List.getD_cons_zero] <;> rfl)) ?_) | (refine plan_pick_t _ _ _ _ (by rfl) (by rfl) (by rfl) (by first | (with_reducible exact Mem.ev_const _ _) | (with_reducible exact Mem.ev_zero _ _ _) | (with_reducible (apply Eq.trans (Mem.ev_tmp _ _ _)); simp only [List.getD_cons_succ, List.getD_cons_zero] <;> rfl)) (by first | (with_reducible exact Mem.ev_const _ _) | (with_reducible exact Mem.ev_zero _ _ _) | (with_reducible (apply Eq.trans (Mem.ev_tmp _ _ _)); simp only [List.getD_cons_succ, List.getD_cons_zero] <;> rfl)) ?_) | (refine plan_pick_f _ _ _ _ (by rfl) (by rfl) (by rfl) (by first | (with_reducible exact Mem.ev_const _ _) | (with_reducible exact Mem.ev_zero _ _ _) | (with_reducible (apply Eq.trans (Mem.ev_tmp _ _ _)); simp only [List.getD_cons_succ, List.getD_cons_zero] <;> rfl)) (by first | (with_reducible exact Mem.ev_const _ _) | (with_reducible exact Mem.ev_zero _ _ _) | (with_reducible (apply Eq.trans (Mem.ev_tmp _ _ _)); simp only [List.getD_cons_succ, List.getD_cons_zero] <;> rfl)) ?_))
                        (simp only [Act.put, List.setIfInBounds_toArray, List.set_cons_zero, List.set_cons_succ])
                        refine plan_index 111 3 _ _ (pb + m) 0 4 4 k (by rfl) (by rfl) (by rfl) (by first | (with_reducible exact Mem.ev_const _ _) | (with_reducible exact Mem.ev_zero _ _ _) | (with_reducible (apply Eq.trans (Mem.ev_tmp _ _ _)); simp only [List.getD_cons_succ, List.getD_cons_zero] <;> rfl)) (by first | (with_reducible exact Mem.ev_const _ _) | (with_reducible exact Mem.ev_zero _ _ _) | (with_reducible (apply Eq.trans (Mem.ev_tmp _ _ _)); simp only [List.getD_cons_succ, List.getD_cons_zero] <;> rfl)) (by omega) Tryd.underlying111 (by kernel_rfl) ?_
                        (simp only [Act.put, List.setIfInBounds_toArray, List.set_cons_zero, List.set_cons_succ])
                        refine plan_cell 3 _ _ _ _ (by rfl) (by rfl) (by rfl) (by first | (with_reducible exact Mem.ev_const _ _) | (with_reducible exact Mem.ev_zero _ _ _) | (with_reducible (apply Eq.trans (Mem.ev_tmp _ _ _)); simp only [List.getD_cons_succ, List.getD_cons_zero] <;> rfl)) (fun w' hw' => ((PM.out.but hw' PN.out).cell _).trans PQ.out) Tryd.underlying3 (by rfl) ?_
                        (simp only [Act.put, List.setIfInBounds_toArray, List.set_cons_zero, List.set_cons_succ])
                        (first | (refine plan_move _ _ (by rfl) (by rfl) (.inl (by rfl)) (by first | (with_reducible exact Mem.ev_const _ _) | (with_reducible exact Mem.ev_zero _ _ _) | (with_reducible (apply Eq.trans (Mem.ev_tmp _ _ _)); simp only [List.getD_cons_succ, List.getD_cons_zero] <;> rfl)) ?_) | (refine plan_move _ _ (by rfl) (by rfl) (.inr (by rfl)) (by first | (with_reducible exact Mem.ev_const _ _) | (with_reducible exact Mem.ev_zero _ _ _) | (with_reducible (apply Eq.trans (Mem.ev_tmp _ _ _)); simp only [List.getD_cons_succ, List.getD_cons_zero] <;> rfl)) ?_) | (refine plan_pick_t _ _ _ _ (by rfl) (by rfl) (by rfl) (by first | (with_reducible exact Mem.ev_const _ _) | (with_reducible exact Mem.ev_zero _ _ _) | (with_reducible (apply Eq.trans (Mem.ev_tmp _ _ _)); simp only [List.getD_cons_succ, List.getD_cons_zero] <;> rfl)) (by first | (with_reducible exact Mem.ev_const _ _) | (with_reducible exact Mem.ev_zero _ _ _) | (with_reducible (apply Eq.trans (Mem.ev_tmp _ _ _)); simp only [List.getD_cons_succ, List.getD_cons_zero] <;> rfl)) ?_) | (refine plan_pick_f _ _ _ _ (by rfl) (by rfl) (by rfl) (by first | (with_reducible exact Mem.ev_const _ _) | (with_reducible exact Mem.ev_zero _ _ _) | (with_reducible (apply Eq.trans (Mem.ev_tmp _ _ _)); simp only [List.getD_cons_succ, List.getD_cons_zero] <;> rfl)) (by first | (with_reducible exact Mem.ev_const _ _) | (with_reducible exact Mem.ev_zero _ _ _) | (with_reducible (apply Eq.trans (Mem.ev_tmp _ _ _)); simp only [List.getD_cons_succ, List.getD_cons_zero] <;> rfl)) ?_))
                        (simp only [Act.put, List.setIfInBounds_toArray, List.set_cons_zero, List.set_cons_succ])
                        refine plan_index_arr1 112 65 4 _ _ b14 k (by rfl) (by rfl) (by rfl) (by first | (with_reducible exact Mem.ev_const _ _) | (with_reducible exact Mem.ev_zero _ _ _) | (with_reducible (apply Eq.trans (Mem.ev_tmp _ _ _)); simp only [List.getD_cons_succ, List.getD_cons_zero] <;> rfl)) (by first | (with_reducible exact Mem.ev_const _ _) | (with_reducible exact Mem.ev_zero _ _ _) | (with_reducible (apply Eq.trans (Mem.ev_tmp _ _ _)); simp only [List.getD_cons_succ, List.getD_cons_zero] <;> rfl)) (by omega) Tryd.underlying112 infoU32 ?_
                        (simp only [Act.put, List.setIfInBounds_toArray, List.set_cons_zero, List.set_cons_succ])
                        refine plan_cell 65 _ _ _ _ (by rfl) (by rfl) (by rfl) (by first | (with_reducible exact Mem.ev_const _ _) | (with_reducible exact Mem.ev_zero _ _ _) | (with_reducible (apply Eq.trans (Mem.ev_tmp _ _ _)); simp only [List.getD_cons_succ, List.getD_cons_zero] <;> rfl)) (fun w' hw' => ((QA.out.but hw' QN.out).cell _).trans GQ.out) Tryd.underlying65 (by rfl) ?_
                        (simp only [Act.put, List.setIfInBounds_toArray, List.set_cons_zero, List.set_cons_succ])
                        refine plan_index 96 65 _ _ bw 0 16 capw q (by rfl) (by rfl) (by rfl) (by first | (with_reducible exact Mem.ev_const _ _) | (with_reducible exact Mem.ev_zero _ _ _) | (with_reducible (apply Eq.trans (Mem.ev_tmp _ _ _)); simp only [List.getD_cons_succ, List.getD_cons_zero] <;> rfl)) (by first | (with_reducible exact Mem.ev_const _ _) | (with_reducible exact Mem.ev_zero _ _ _) | (with_reducible (apply Eq.trans (Mem.ev_tmp _ _ _)); simp only [List.getD_cons_succ, List.getD_cons_zero] <;> rfl)) (by omega) Tryd.underlying96 (by kernel_rfl) ?_
                        (simp only [Act.put, List.setIfInBounds_toArray, List.set_cons_zero, List.set_cons_succ])
                        refine plan_store_one 65 _ _ bw (0 + q) (.int .u32 (V y)) E 65 (by rfl) (by rfl) (by rfl) (by rfl) (by first | (with_reducible exact Mem.ev_const _ _) | (with_reducible exact Mem.ev_zero _ _ _) | (with_reducible (apply Eq.trans (Mem.ev_tmp _ _ _)); simp only [List.getD_cons_succ, List.getD_cons_zero] <;> rfl)) (by first | (with_reducible exact Mem.ev_const _ _) | (with_reducible exact Mem.ev_zero _ _ _) | (with_reducible (apply Eq.trans (Mem.ev_tmp _ _ _)); simp only [List.getD_cons_succ, List.getD_cons_zero] <;> rfl)) (by rfl) infoU32 KK.out SZ.out ((But.row (w' := wr) (But.refl _ _) (by simp) (fun j hj => heap_setCell_other _ _ _ _ hj))) ?_
                        refine plan_nil ?_
                        have a7 : At (wr.drew.setCell ⟨bw, 0 + q, none⟩ (.int .u32 (V y))) bw (u32s (qset M p Q (k + 1)) ++ Jw).toArray 65 := by rw [← ST.out]; exact At.set (w := wr.drew) KK.out _ _
                        have o7 : But bw wc (wr.drew.setCell ⟨bw, 0 + q, none⟩ (.int .u32 (V y))) := OO.out.row (by simp) (fun j hj => heap_setCell_other wr.drew ⟨bw, 0 + q, none⟩ j _ hj)
                        have b7 : Below w.heap.size w (wr.drew.setCell ⟨bw, 0 + q, none⟩ (.int .u32 (V y))) := B5.out.drew.setCell BWL.out _
                        have I7 : Hid (W3 (qset M p Q (k + 1)) Jw bw w wc (wr.drew.setCell ⟨bw, 0 + q, none⟩ (.int .u32 (V y)))) := ⟨a7, o7, b7⟩
                        clear a7 o7 b7
                        generalize wr.drew.setCell ⟨bw, 0 + q, none⟩ (.int .u32 (V y)) = w7 at *
                        go_wp2_with fail
                        go_roundw
                        case rel => exact ⟨k + 1, by omega, by go_num, I7.out⟩
                        case measure => simp [intOf]; omega
                      · have hk4 : k = 4 := by omega
                        have hge4 : ¬ (k : Int) < 4 := by omega
                        rw [hk4, EN.out] at hI
                        have I7 : Hid (W3 (some8 L (m + 1)) Jw bw w w6 wr) := ⟨hI.a, But.same O7.out hI.o, hI.b⟩
                        clear hI hk4 hlt4 hk
                        go_wp2_with fail
                        go_roundw
                        case rel => exact ⟨m + 1, by omega, by go_num, I7.out⟩
                        case measure => simp [intOf]; omega
                · have hm8 : m = 8 := by omega
                  have hge2 : ¬ (m : Int) < 8 := by omega
                  rw [hm8, NX.out] at hI
                  have I7 : Hid (W3 (all8 cf (r + 1)) Jw bw w w5 wr) := ⟨hI.a, But.same O6.out hI.o, hI.b⟩
                  clear hI hm8 hlt2 hm
                  go_wp2_with fail
                  go_roundw
                  case rel => exact ⟨r + 1, by omega, by go_num, I7.out⟩
                  case measure => simp [intOf]; omega
            · have hr10 : r = 10 := by omega
              have hge3 : ¬ (r : Int) < 10 := by omega
              rw [hr10] at hI
              obtain ⟨rd, hrd⟩ : ∃ rd, rd = all8 cf 10 := ⟨_, rfl⟩
              have lrd : rd.length = 16 := by rw [hrd, all8_length]; exact LCF.out
              have hcb := cblk_word key nonce n
              have lcb := cblk_length key nonce n
              obtain ⟨cb, hcbb⟩ : ∃ cb, cb = cblk key nonce n := ⟨_, rfl⟩
              rw [← HCF.out, ← hrd, ← hcbb] at hcb
              rw [← hcbb] at lcb
              rw [← hrd] at hI
              obtain ⟨X2, hX2⟩ : ∃ X, X = CZ64 := ⟨_, rfl⟩
              have hx2 := czero64
              rw [← hX2] at hx2
              have hX0 : (u8s (rowZ cb 64 0)).toArray = X2 := by rw [hX2]; simp [rowZ, CZ64]
              have wa : At (wr.alloc (.cells X2 67)) bw (u32s rd ++ Jw).toArray 65 := hI.a.alloc _
              have fa : At (wr.alloc (.cells X2 67)) bf (u32s cf ++ Jf).toArray 65 := (FA5.out.but hI.o BWF.out).alloc _
              have ra : At (wr.alloc (.cells X2 67)) (w.heap.size + 1 + 1) X 67 := (RR5.out.but hI.o BWR.out).alloc _
              have I6 : Hid (W6 (rowZ cb 64 (4 * 0)) wr.heap.size w (wr.alloc (.cells X2 67)) (wr.alloc (.cells X2 67))) := ⟨by rw [Nat.mul_zero, hX0]; exact at_new wr X2 _, But.refl _ _, hI.b.alloc hI.b.size _⟩
              have NW : Hid (bw ≠ wr.heap.size) := Nat.ne_of_lt hI.a.lt
              have NF : Hid (bf ≠ wr.heap.size) := Nat.ne_of_lt (FA5.out.but hI.o BWF.out).lt
              have NR : Hid (w.heap.size + 1 + 1 ≠ wr.heap.size) := Nat.ne_of_lt (RR5.out.but hI.o BWR.out).lt
              have LO : Hid (w.heap.size ≤ wr.heap.size) := hI.b.size
              have WA0 := Lib.hid wa; have FA0 := Lib.hid fa; have RA0 := Lib.hid ra; have CB := Lib.hid hcb; have LCB := Lib.hid lcb; have HCB := Lib.hid hcbb; have LRD := Lib.hid lrd
              clear hI wa fa ra hcb lcb hcbb hrd lrd hX0 hX2 hr10 hlt hr
              go_wp2_with fail
              clear hx2
              generalize wr.alloc (.cells X2 67) = wd at *
              generalize wr.heap.size = bo at *
              go_loopw [17, 18, 19] (fun i _ _ wr => ∃ j : Nat, j ≤ 16 ∧ i = .int .i64 j ∧ W6 (rowZ cb 64 (4 * j)) bo w wd wr) (fun i _ _ _ => 16 - (intOf i).toNat)
              case atStart => exact ⟨0, by omega, rfl, I6.out⟩
              case round =>
                clear I6
                obtain ⟨i, hi, rfl, hI⟩ := hrel
                by_cases hlt6 : i < 16
                · obtain ⟨x, hxx⟩ : ∃ x, x = rd.getD i 0 := ⟨_, rfl⟩
                  obtain ⟨y, hyy⟩ : ∃ y, y = cf.getD i 0 := ⟨_, rfl⟩
                  have xi := app_get rd Jw i (by rw [LRD.out]; exact hlt6)
                  have yi := app_get cf Jf i (by rw [LCF.out]; exact hlt6)
                  have cw := CB.out i hlt6
                  rw [← hxx] at xi; rw [← hyy] at yi; rw [← hxx, ← hyy] at cw
                  have xi2 : (u32s rd ++ Jw).toArray[0 + i]? = some (.int .u32 (V x)) := by rw [Nat.zero_add]; exact xi
                  have yi2 : (u32s cf ++ Jf).toArray[0 + i]? = some (.int .u32 (V y)) := by rw [Nat.zero_add]; exact yi
                  have WA := Lib.hid (WA0.out.but hI.o NW.out); have FA := Lib.hid (FA0.out.but hI.o NF.out); have XI := Lib.hid xi2; have YI := Lib.hid yi2; have CW := Lib.hid cw; have II := Lib.hid hI
                  have hlt7 : (i : Int) < 16 := by omega
                  clear hI xi yi xi2 yi2 cw hxx hyy
                  go_wp2_with fail
                  refine wp_region_plan ((.take 0 (.take 1 (.take 2 (.take 3 (.take 4 (.take 5 (.take 6 (.take 7 (.take 8 (.take 9 .done))))))))))) (by kernel_rfl) (by kernel_rfl) (by kernel_rfl) ?_
                  (first | (refine plan_move _ _ (by rfl) (by rfl) (.inl (by rfl)) (by first | (with_reducible exact Mem.ev_const _ _) | (with_reducible exact Mem.ev_zero _ _ _) | (with_reducible (apply Eq.trans (Mem.ev_tmp _ _ _)); simp only [List.getD_cons_succ, List.getD_cons_zero] <;> rfl)) ?_) | (refine plan_move _ _ (by rfl) (by rfl) (.inr (by rfl)) (by first | (with_reducible exact Mem.ev_const _ _) | (with_reducible exact Mem.ev_zero _ _ _) | (with_reducible (apply Eq.trans (Mem.ev_tmp _ _ _)); simp only [List.getD_cons_succ, List.getD_cons_zero] <;> rfl)) ?_) | (refine plan_pick_t _ _ _ _ (by rfl) (by rfl) (by rfl) (by first | (with_reducible exact Mem.ev_const _ _) | (with_reducible exact Mem.ev_zero _ _ _) | (with_reducible (apply Eq.trans (Mem.ev_tmp _ _ _)); simp only [List.getD_cons_succ, List.getD_cons_zero] <;> rfl)) (by first | (with_reducible exact Mem.ev_const _ _) | (with_reducible exact Mem.ev_zero _ _ _) | (with_reducible (apply Eq.trans (Mem.ev_tmp _ _ _)); simp only [List.getD_cons_succ, List.getD_cons_zero] <;> rfl)) ?_) | (refine plan_pick_f _ _ _ _ (by rfl) (by rfl) (by rfl) (by first | (with_reducible exact Mem.ev_const _ _) | (with_reducible exact Mem.ev_zero _ _ _) | (with_reducible (apply Eq.trans (Mem.ev_tmp _ _ _)); simp only [List.getD_cons_succ, List.getD_cons_zero] <;> rfl)) (by first | (with_reducible exact Mem.ev_const _ _) | (with_reducible exact Mem.ev_zero _ _ _) | (with_reducible (apply Eq.trans (Mem.ev_tmp _ _ _)); simp only [List.getD_cons_succ, List.getD_cons_zero] <;> rfl)) ?_))
                  (simp only [Act.put, List.setIfInBounds_toArray, List.set_cons_zero, List.set_cons_succ])
                  (first | (refine plan_move _ _ (by rfl) (by rfl) (.inl (by rfl)) (by first | (with_reducible exact Mem.ev_const _ _) | (with_reducible exact Mem.ev_zero _ _ _) | (with_reducible (apply Eq.trans (Mem.ev_tmp _ _ _)); simp only [List.getD_cons_succ, List.getD_cons_zero] <;> rfl)) ?_) | (refine plan_move _ _ (by rfl) (by rfl) (.inr (by rfl)) (by first | (with_reducible exact Mem.ev_const _ _) | (with_reducible exact Mem.ev_zero _ _ _) | (with_reducible (apply Eq.trans (Mem.ev_tmp _ _ _)); simp only [List.getD_cons_succ, List.getD_cons_zero] <;> rfl)) ?_) | (refine plan_pick_t _ _ _ _ (by rfl) (by rfl) (by rfl) (by first | (with_reducible exact Mem.ev_const _ _) | (with_reducible exact Mem.ev_zero _ _ _) | (with_reducible (apply Eq.trans (Mem.ev_tmp _ _ _)); simp only [List.getD_cons_succ, List.getD_cons_zero] <;> rfl)) (by first | (with_reducible exact Mem.ev_const _ _) | (with_reducible exact Mem.ev_zero _ _ _) | (with_reducible (apply Eq.trans (Mem.ev_tmp _ _ _)); simp only [List.getD_cons_succ, List.getD_cons_zero] <;> rfl)) ?_) | (refine plan_pick_f _ _ _ _ (by rfl) (by rfl) (by rfl) (by first | (with_reducible exact Mem.ev_const _ _) | (with_reducible exact Mem.ev_zero _ _ _) | (with_reducible (apply Eq.trans (Mem.ev_tmp _ _ _)); simp only [List.getD_cons_succ, List.getD_cons_zero] <;> rfl)) (by first | (with_reducible exact Mem.ev_const _ _) | (with_reducible exact Mem.ev_zero _ _ _) | (with_reducible (apply Eq.trans (Mem.ev_tmp _ _ _)); simp only [List.getD_cons_succ, List.getD_cons_zero] <;> rfl)) ?_))
                  (simp only [Act.put, List.setIfInBounds_toArray, List.set_cons_zero, List.set_cons_succ])
                  refine plan_index 96 65 _ _ bw 0 16 capw i (by rfl) (by rfl) (by rfl) (by first | (with_reducible exact Mem.ev_const _ _) | (with_reducible exact Mem.ev_zero _ _ _) | (with_reducible (apply Eq.trans (Mem.ev_tmp _ _ _)); simp only [List.getD_cons_succ, List.getD_cons_zero] <;> rfl)) (by first | (with_reducible exact Mem.ev_const _ _) | (with_reducible exact Mem.ev_zero _ _ _) | (with_reducible (apply Eq.trans (Mem.ev_tmp _ _ _)); simp only [List.getD_cons_succ, List.getD_cons_zero] <;> rfl)) (by omega) Tryd.underlying96 (by kernel_rfl) ?_
                  (simp only [Act.put, List.setIfInBounds_toArray, List.set_cons_zero, List.set_cons_succ])
                  refine plan_cell 65 _ _ _ _ (by rfl) (by rfl) (by rfl) (by first | (with_reducible exact Mem.ev_const _ _) | (with_reducible exact Mem.ev_zero _ _ _) | (with_reducible (apply Eq.trans (Mem.ev_tmp _ _ _)); simp only [List.getD_cons_succ, List.getD_cons_zero] <;> rfl)) (fun w' hw' => ((WA.out.below hw' WA.out.lt).cell _).trans XI.out) Tryd.underlying65 (by rfl) ?_
                  (simp only [Act.put, List.setIfInBounds_toArray, List.set_cons_zero, List.set_cons_succ])
                  (first | (refine plan_move _ _ (by rfl) (by rfl) (.inl (by rfl)) (by first | (with_reducible exact Mem.ev_const _ _) | (with_reducible exact Mem.ev_zero _ _ _) | (with_reducible (apply Eq.trans (Mem.ev_tmp _ _ _)); simp only [List.getD_cons_succ, List.getD_cons_zero] <;> rfl)) ?_) | (refine plan_move _ _ (by rfl) (by rfl) (.inr (by rfl)) (by first | (with_reducible exact Mem.ev_const _ _) | (with_reducible exact Mem.ev_zero _ _ _) | (with_reducible (apply Eq.trans (Mem.ev_tmp _ _ _)); simp only [List.getD_cons_succ, List.getD_cons_zero] <;> rfl)) ?_) | (refine plan_pick_t _ _ _ _ (by rfl) (by rfl) (by rfl) (by first | (with_reducible exact Mem.ev_const _ _) | (with_reducible exact Mem.ev_zero _ _ _) | (with_reducible (apply Eq.trans (Mem.ev_tmp _ _ _)); simp only [List.getD_cons_succ, List.getD_cons_zero] <;> rfl)) (by first | (with_reducible exact Mem.ev_const _ _) | (with_reducible exact Mem.ev_zero _ _ _) | (with_reducible (apply Eq.trans (Mem.ev_tmp _ _ _)); simp only [List.getD_cons_succ, List.getD_cons_zero] <;> rfl)) ?_) | (refine plan_pick_f _ _ _ _ (by rfl) (by rfl) (by rfl) (by first | (with_reducible exact Mem.ev_const _ _) | (with_reducible exact Mem.ev_zero _ _ _) | (with_reducible (apply Eq.trans (Mem.ev_tmp _ _ _)); simp only [List.getD_cons_succ, List.getD_cons_zero] <;> rfl)) (by first | (with_reducible exact Mem.ev_const _ _) | (with_reducible exact Mem.ev_zero _ _ _) | (with_reducible (apply Eq.trans (Mem.ev_tmp _ _ _)); simp only [List.getD_cons_succ, List.getD_cons_zero] <;> rfl)) ?_))
                  (simp only [Act.put, List.setIfInBounds_toArray, List.set_cons_zero, List.set_cons_succ])
                  (first | (refine plan_move _ _ (by rfl) (by rfl) (.inl (by rfl)) (by first | (with_reducible exact Mem.ev_const _ _) | (with_reducible exact Mem.ev_zero _ _ _) | (with_reducible (apply Eq.trans (Mem.ev_tmp _ _ _)); simp only [List.getD_cons_succ, List.getD_cons_zero] <;> rfl)) ?_) | (refine plan_move _ _ (by rfl) (by rfl) (.inr (by rfl)) (by first | (with_reducible exact Mem.ev_const _ _) | (with_reducible exact Mem.ev_zero _ _ _) | (with_reducible (apply Eq.trans (Mem.ev_tmp _ _ _)); simp only [List.getD_cons_succ, List.getD_cons_zero] <;> rfl)) ?_) | (refine plan_pick_t _ _ _ _ (by rfl) (by rfl) (by rfl) (by first | (with_reducible exact Mem.ev_const _ _) | (with_reducible exact Mem.ev_zero _ _ _) | (with_reducible (apply Eq.trans (Mem.ev_tmp _ _ _)); simp only [List.getD_cons_succ, List.getD_cons_zero] <;> rfl)) (by first | (with_reducible exact Mem.ev_const _ _) | (with_reducible exact Mem.ev_zero _ _ _) | (with_reducible (apply Eq.trans (Mem.ev_tmp _ _ _)); simp only [List.getD_cons_succ, List.getD_cons_zero] <;> rfl)) ?_) | (refine plan_pick_f _ _ _ _ (by rfl) (by rfl) (by rfl) (by first | (with_reducible exact Mem.ev_const _ _) | (with_reducible exact Mem.ev_zero _ _ _) | (with_reducible (apply Eq.trans (Mem.ev_tmp _ _ _)); simp only [List.getD_cons_succ, List.getD_cons_zero] <;> rfl)) (by first | (with_reducible exact Mem.ev_const _ _) | (with_reducible exact Mem.ev_zero _ _ _) | (with_reducible (apply Eq.trans (Mem.ev_tmp _ _ _)); simp only [List.getD_cons_succ, List.getD_cons_zero] <;> rfl)) ?_))
                  (simp only [Act.put, List.setIfInBounds_toArray, List.set_cons_zero, List.set_cons_succ])
                  refine plan_index 96 65 _ _ bf 0 16 capf i (by rfl) (by rfl) (by rfl) (by first | (with_reducible exact Mem.ev_const _ _) | (with_reducible exact Mem.ev_zero _ _ _) | (with_reducible (apply Eq.trans (Mem.ev_tmp _ _ _)); simp only [List.getD_cons_succ, List.getD_cons_zero] <;> rfl)) (by first | (with_reducible exact Mem.ev_const _ _) | (with_reducible exact Mem.ev_zero _ _ _) | (with_reducible (apply Eq.trans (Mem.ev_tmp _ _ _)); simp only [List.getD_cons_succ, List.getD_cons_zero] <;> rfl)) (by omega) Tryd.underlying96 (by kernel_rfl) ?_
                  (simp only [Act.put, List.setIfInBounds_toArray, List.set_cons_zero, List.set_cons_succ])
                  refine plan_cell 65 _ _ _ _ (by rfl) (by rfl) (by rfl) (by first | (with_reducible exact Mem.ev_const _ _) | (with_reducible exact Mem.ev_zero _ _ _) | (with_reducible (apply Eq.trans (Mem.ev_tmp _ _ _)); simp only [List.getD_cons_succ, List.getD_cons_zero] <;> rfl)) (fun w' hw' => ((FA.out.below hw' FA.out.lt).cell _).trans YI.out) Tryd.underlying65 (by rfl) ?_
                  (simp only [Act.put, List.setIfInBounds_toArray, List.set_cons_zero, List.set_cons_succ])
                  refine plan_bin _ _ _ _ _ _ _ _ (by rfl) (by rfl) (by rfl) (by first | (with_reducible exact Mem.ev_const _ _) | (with_reducible exact Mem.ev_zero _ _ _) | (with_reducible (apply Eq.trans (Mem.ev_tmp _ _ _)); simp only [List.getD_cons_succ, List.getD_cons_zero] <;> rfl)) (by first | (with_reducible exact Mem.ev_const _ _) | (with_reducible exact Mem.ev_zero _ _ _) | (with_reducible (apply Eq.trans (Mem.ev_tmp _ _ _)); simp only [List.getD_cons_succ, List.getD_cons_zero] <;> rfl)) (fun wx => o_add _ _ _ _ _ _ wx) ?_
                  (simp only [Act.put, List.setIfInBounds_toArray, List.set_cons_zero, List.set_cons_succ])
                  (first | (refine plan_move _ _ (by rfl) (by rfl) (.inl (by rfl)) (by first | (with_reducible exact Mem.ev_const _ _) | (with_reducible exact Mem.ev_zero _ _ _) | (with_reducible (apply Eq.trans (Mem.ev_tmp _ _ _)); simp only [List.getD_cons_succ, List.getD_cons_zero] <;> rfl)) ?_) | (refine plan_move _ _ (by rfl) (by rfl) (.inr (by rfl)) (by first | (with_reducible exact Mem.ev_const _ _) | (with_reducible exact Mem.ev_zero _ _ _) | (with_reducible (apply Eq.trans (Mem.ev_tmp _ _ _)); simp only [List.getD_cons_succ, List.getD_cons_zero] <;> rfl)) ?_) | (refine plan_pick_t _ _ _ _ (by rfl) (by rfl) (by rfl) (by first | (with_reducible exact Mem.ev_const _ _) | (with_reducible exact Mem.ev_zero _ _ _) | (with_reducible (apply Eq.trans (Mem.ev_tmp _ _ _)); simp only [List.getD_cons_succ, List.getD_cons_zero] <;> rfl)) (by first | (with_reducible exact Mem.ev_const _ _) | (with_reducible exact Mem.ev_zero _ _ _) | (with_reducible (apply Eq.trans (Mem.ev_tmp _ _ _)); simp only [List.getD_cons_succ, List.getD_cons_zero] <;> rfl)) ?_) | (refine plan_pick_f _ _ _ _ (by rfl) (by rfl) (by rfl) (by first | (with_reducible exact Mem.ev_const _ _) | (with_reducible exact Mem.ev_zero _ _ _) | (with_reducible (apply Eq.trans (Mem.ev_tmp _ _ _)); simp only [List.getD_cons_succ, List.getD_cons_zero] <;> rfl)) (by first | (with_reducible exact Mem.ev_const _ _) | (with_reducible exact Mem.ev_zero _ _ _) | (with_reducible (apply Eq.trans (Mem.ev_tmp _ _ _)); simp only [List.getD_cons_succ, List.getD_cons_zero] <;> rfl)) ?_))
                  (simp only [Act.put, List.setIfInBounds_toArray, List.set_cons_zero, List.set_cons_succ])
                  refine plan_nil ?_
                  obtain ⟨z, hz⟩ : ∃ z, z = x + y := ⟨_, rfl⟩
                  rw [← hz]
                  have CW2 : Hid (∀ j, j < 4 → cb.getD (4 * i + j) 0 = wb z (8 * j)) := by rw [hz]; exact CW.out
                  have vz := V_lo z
                  have I8 : Hid (W6 (rowZ cb 64 (4 * i + 0)) bo w wd wr.drew) := ⟨II.out.a, ⟨II.out.o.size, II.out.o.block⟩, II.out.b.drew⟩
                  clear hz CW II WA FA XI YI
                  generalize wr.drew = w8 at *
                  go_wp2_with fail
                  go_loopw [19] (fun k wr => ∃ j : Nat, j ≤ 4 ∧ k = .int .i64 j ∧ W6 (rowZ cb 64 (4 * i + j)) bo w wd wr) (fun k _ => 4 - (intOf k).toNat)
                  case atStart => exact ⟨0, by omega, rfl, I8.out⟩
                  case round =>
                    clear I8
                    obtain ⟨j, hj, rfl, hI⟩ := hrel
                    by_cases hlt8 : j < 4
                    · have hset : (u8s (rowZ cb 64 (4 * i + j))).toArray.setIfInBounds (4 * i + j) (.int .u8 ((wb z (8 * j)).toNat : Int)) = (u8s (rowZ cb 64 (4 * i + (j + 1)))).toArray := by
                        rw [show 4 * i + (j + 1) = (4 * i + j) + 1 by omega, ← rowZ_set cb 64 (4 * i + j) LCB.out (by omega), CW2.out j hlt8]; exact u8s_set _ _ _
                      have hEs : 4 * i + j < (u8s (rowZ cb 64 (4 * i + j))).toArray.size := by rw [List.size_toArray, u8s_length, rowZ_length cb 64 _ LCB.out (by omega)]; omega
                      have hk := hI.a
                      obtain ⟨E, hE⟩ : ∃ E, E = (u8s (rowZ cb 64 (4 * i + j))).toArray := ⟨_, rfl⟩
                      rw [← hE] at hk hset hEs
                      have KK := Lib.hid hk; have ST := Lib.hid hset; have ES := Lib.hid hEs; have OO := Lib.hid hI.o; have BB := Lib.hid hI.b
                      have hlt9 : (j : Int) < 4 := by omega
                      have hbd : 4 * (i : Int) + (j : Int) < 64 := by omega
                      clear hk hset hEs hI hE
                      go_wp2_with (refine Mem.wpList_store_one (by rfl) 5 _ _ (by rfl) (by rfl) bo (4 * i + j) (.int .u8 ((wb z (8 * j)).toNat : Int)) (by rfl) (by exact congrArg (Value.int .u8) (wb_pow' z _)) (by rfl) infoB _ _ KK.out ES.out ?_; intro w9 hat' ho' hb'; have KK' := Lib.hid hat'; have OO' := Lib.hid (OO.out.row (hb' bo _ (Below.refl _ _) (Nat.le_refl _)).size ho'); have BB' := Lib.hid (hb' _ _ BB.out LO.out); clear hat' ho' hb')
                      go_roundw
                      case rel => exact ⟨j + 1, by omega, by go_num, by rw [← ST.out]; exact KK'.out, OO'.out, BB'.out⟩
                      case measure => simp [intOf]; omega
                    · have hj4 : j = 4 := by omega
                      have hge8 : ¬ (j : Int) < 4 := by omega
                      rw [hj4, show 4 * i + 4 = 4 * (i + 1) by omega] at hI
                      have I9 := Lib.hid hI
                      clear hI hj4 hlt8 hj
                      go_wp2_with fail
                      go_roundw
                      case rel => exact ⟨i + 1, by omega, by go_num, I9.out⟩
                      case measure => simp [intOf]; omega
                · have hi16 : i = 16 := by omega
                  have hge6 : ¬ (i : Int) < 16 := by omega
                  rw [hi16, rowZ_all cb 64 LCB.out] at hI
                  obtain ⟨M, hM⟩ : ∃ M, M = cbOf key nonce n := ⟨_, rfl⟩
                  have hk := hI.a
                  rw [show (u8s cb).toArray = M by rw [hM, HCB.out]; rfl] at hk
                  have hMs : M.size = 64 := by rw [hM]; exact cbOf_size _ _ _
                  have hMo : M.all (·.oneCell') = true := by rw [hM]; exact cbOf_one _ _ _
                  have HM := Lib.hid hM; have MS := Lib.hid hMs; have MO := Lib.hid hMo; have KK := Lib.hid hk; have RR := Lib.hid (RA0.out.but hI.o NR.out); have BB := Lib.hid hI.b
                  clear hM hMs hMo hk hI hlt6 hi hi16
                  go_wp2_with (first | (refine wpList_load_all (by rfl) 67 _ (by rfl) bo (by rfl) _ Tryd.underlying67 (by rfl) M _ KK.out (by rw [MS.out]; exact cinfo64) ?_) | (refine wpList_store_all (by rfl) 67 _ _ (by rfl) (by rfl) (w.heap.size + 1 + 1) M (by rfl) (by rfl) (by rw [MS.out]; exact cinfo64) _ _ RR.out (by rw [MS.out, XS.out]) MO.out ?_))
                  try simp only [Exit.inBlock, Exit.then]
                  refine ret_row (by rfl) (w.heap.size + 1 + 1) 67 M _ (by rfl) (RR.out.row M) Tryd.underlying67 (by rfl) (by rw [MS.out]; exact cinfo64) ?_
                  exact ⟨by rw [HM.out]; rfl, below_row BB.out (by omega) M⟩
end Sha
end Go.Proofs.YtjadjidjfkahpaaDoor
namespace Go.Proofs.YtjadjidjfkahpaaDoor
namespace Sha
open Go.RowKit Mem
set_option maxHeartbeats 400000 in
theorem rstream_bad (key nonce : List (BitVec 8)) (n : BitVec 32) (size : Int) (hz : size < 0 ∨ 1048576 < size) (w : World) :
    Calls Tryd.prog 49 #[.agg (u8s key).toArray, .agg (u8s nonce).toArray, .int .u32 (V n), .int .i64 size] w fun e w' => e = .returned (.slice none 0 0) ∧ Below w.heap.size w w' := by
  generalize (u8s key).toArray = C
  generalize (u8s nonce).toArray = D
  have hB : Below w.heap.size w ((w.alloc (.cells C 24)).alloc (.cells D 63)) := ((Below.refl _ _).alloc (Nat.le_refl _) _).alloc (by simp) _
  have HB := Lib.hid hB
  clear hB
  rcases hz with h | h
  · go_enter Tryd.func49, Tryd.ntmps49
    go_wp2
    go_ret
    exact ⟨rfl, HB.out⟩
  · have h' : ¬ size < 0 := by omega
    go_enter Tryd.func49, Tryd.ntmps49
    go_wp2
    go_ret
    exact ⟨rfl, HB.out⟩
structure RSInv (key nonce : List (BitVec 8)) (n : BitVec 32) (C D : Array Value) (j : Nat) (v : Value) (w wr : World) : Prop where
  o : OwnB wr (w.heap.size + 1 + 1) v (cblks key nonce n j)
  c : At wr w.heap.size C 24
  d : At wr (w.heap.size + 1) D 63
  b : Below w.heap.size w wr
set_option maxRecDepth 100000 in
set_option maxHeartbeats 2000000 in
theorem rstream_good (key nonce : List (BitVec 8)) (n : BitVec 32) (size : Nat) (lk : key.length = 32) (ln : nonce.length = 12) (hz : size ≤ 1048576) (w : World) :
    Calls Tryd.prog 49 #[.agg (u8s key).toArray, .agg (u8s nonce).toArray, .int .u32 (V n), .int .i64 (size : Int)] w (RSEnd w (cstream key nonce n size)) := by
  obtain ⟨X, hX⟩ : ∃ X, X = CZ64 := ⟨_, rfl⟩
  have hx := czero64
  rw [← hX] at hx
  have hXs : X.size = 64 := by rw [hX]; simp [CZ64, u8s]
  have hbl := fun (m : BitVec 32) wx => rblk_any key nonce m lk ln wx
  obtain ⟨C, hC⟩ : ∃ C, C = (u8s key).toArray := ⟨_, rfl⟩
  obtain ⟨D, hD⟩ : ∃ D, D = (u8s nonce).toArray := ⟨_, rfl⟩
  have hCs : C.size = 32 := by rw [hC]; simp [u8s, lk]
  have hDs : D.size = 12 := by rw [hD]; simp [u8s, ln]
  rw [← hC, ← hD] at hbl
  rw [← hC, ← hD]
  have g3 : ¬ (size : Int) < 0 := by omega
  have g4 : ¬ (1048576 : Int) < (size : Int) := by omega
  have aD : At ((w.alloc (.cells C 24)).alloc (.cells D 63)) (w.heap.size + 1) D 63 := by
    have h := at_new (w.alloc (.cells C 24)) D 63
    simpa using h
  have hI : RSInv key nonce n C D 0 (.slice none 0 0) w ((w.alloc (.cells C 24)).alloc (.cells D 63)) :=
    ⟨OwnB.nil _ _, (at_new w C _).alloc _, aD, ((Below.refl _ _).alloc (Nat.le_refl _) _).alloc (by simp) _⟩
  have N0 : Hid (V n = V (n + BitVec.ofNat 32 0)) := by show V n = V (n + BitVec.ofNat 32 0); simp
  have BL := Lib.hid hbl; have XS := Lib.hid hXs; have CS := Lib.hid hCs; have DS := Lib.hid hDs; have I0 := Lib.hid hI
  clear hbl hXs hX hC hD hCs hDs aD hI lk ln
  go_enter Tryd.func49, Tryd.ntmps49
  go_wp2_with fail
  generalize (w.alloc (.cells C 24)).alloc (.cells D 63) = w4 at *
  go_loopw [2, 9, 10] (fun vn vo _ wr => ∃ j : Nat, 64 * j ≤ size + 63 ∧ vn = .int .u32 (V (n + BitVec.ofNat 32 j)) ∧ RSInv key nonce n C D j vo w wr) (fun _ vo _ _ => 2000000 - (match vo with | .slice _ l _ => l | _ => 0))
  case atStart => exact ⟨0, by omega, by rw [N0.out], I0.out⟩
  case round =>
    clear I0 N0
    obtain ⟨j, hj, rfl, hI⟩ := hrel
    obtain ⟨ao, co, hvo, hco, _⟩ := hI.o.open
    rw [cblks_length] at hvo hco
    subst hvo
    by_cases hlt : 64 * j < size
    · have hlt' : 64 * (j : Int) < (size : Int) := by omega
      obtain ⟨N, hN⟩ : ∃ N, N = n + BitVec.ofNat 32 j := ⟨_, rfl⟩
      have hN2 : (V N + 1) % (4294967296 : Int) = V (n + BitVec.ofNat 32 (j + 1)) := by rw [hN]; exact V_up n j
      have hb := fun wx => BL.out N wx
      obtain ⟨T, hT⟩ : ∃ T, T = cblk key nonce N := ⟨_, rfl⟩
      have hTl : T.length = 64 := by rw [hT]; exact cblk_length _ _ _
      have hnx : cblks key nonce n (j + 1) = cblks key nonce n j ++ T := by rw [hT, hN]; rfl
      obtain ⟨F, hF⟩ : ∃ F, F = (u8s T).toArray := ⟨_, rfl⟩
      have hFs : F.size = 64 := by rw [hF]; simp [u8s, hTl]
      have hFo : F.all (·.oneCell') = true := by rw [hF]; exact u8s_one _
      rw [← hT, ← hF] at hb
      rw [← hN]
      have BJ := Lib.hid hb; have N2 := Lib.hid hN2; have TL := Lib.hid hTl; have NX := Lib.hid hnx; have HF := Lib.hid hF; have FS := Lib.hid hFs; have FO := Lib.hid hFo; have OO := Lib.hid hI.o; have BB := Lib.hid hI.b; have CC := Lib.hid hI.c; have DD := Lib.hid hI.d; have BLN := Lib.hid (cblks_length key nonce n j)
      clear hb hN2 hTl hnx hF hFs hFo hI hT hN hco
      go_wp2_with (first
        | (refine wpList_load_all (by rfl) 24 _ (by rfl) w.heap.size (by rfl) _ Tryd.underlying24 (by rfl) C _ CC.out (by rw [CS.out]; exact info32b) ?_)
        | (refine wpList_load_all (by rfl) 63 _ (by rfl) (w.heap.size + 1) (by rfl) _ Tryd.underlying63 (by rfl) D _ DD.out (by rw [DS.out]; exact info12) ?_)
        | (go_at_call 62; refine (BJ.out _).mono ?_; rintro e w2 ⟨rfl, hb2⟩; have O2 := Lib.hid (OO.out.below hb2); have C2 := Lib.hid (CC.out.below hb2 CC.out.lt); have D2 := Lib.hid (DD.out.below hb2 DD.out.lt); have B2 := Lib.hid (BB.out.trans (hb2.mono BB.out.size)); clear hb2)
        | (refine wpList_store_new (by rfl) 67 _ _ (by rfl) (by rfl) F _ _ (by rfl) (by rfl) (by rw [FS.out]; exact cinfo64) (by rw [FS.out, XS.out]) FO.out ?_; have F3 := Lib.hid (at_new w2 F 67); have O3 := Lib.hid (O2.out.below ((Below.refl _ _).alloc (Nat.le_refl _) (.cells F 67))); have C3 := Lib.hid (C2.out.alloc (.cells F 67)); have D3 := Lib.hid (D2.out.alloc (.cells F 67)); have B3 := Lib.hid (B2.out.alloc B2.out.size (.cells F 67)); generalize w2.alloc (.cells F 67) = w3 at *; generalize w2.heap.size = bd at *)
        | (at_builtin; refine wpList_append_bytes (by rfl) _ _ (by rfl) (w.heap.size + 1 + 1) (.slice ao (64 * j) co) (.slice (some ⟨bd, 0, none⟩) 64 64) (cblks key nonce n j) T (by rfl) O3.out (by rfl) (at_sl (by have h := F3.out; rw [HF.out] at h; exact h) TL.out) (by rw [TL.out, BLN.out]; omega) (by have := D3.out.lt; omega) ?_; intro v4 w4 ho4 hk4 hb4; have O4 : Hid (OwnB w4 (w.heap.size + 1 + 1) v4 (cblks key nonce n (j + 1))) := (by rw [NX.out]; exact ho4); have C4 := Lib.hid (C3.out.below hb4 (by omega)); have D4 := Lib.hid (D3.out.below hb4 (by omega)); have B4 := Lib.hid (B3.out.trans (hb4.mono (by omega))); clear ho4 hk4 hb4))
      rw [N2.out]
      go_roundw
      case rel => exact ⟨j + 1, by omega, rfl, O4.out, C4.out, D4.out, B4.out⟩
      case measure =>
        obtain ⟨a5, c5, hv5, _, _⟩ := O4.out.open
        rw [cblks_length] at hv5
        subst hv5
        simp only
        omega
    · have hge : ¬ 64 * (j : Int) < (size : Int) := by omega
      have hst := cstream_from key nonce n size j (by omega)
      have hsl : ∀ a', (64 * j ≠ 0 → a' = ao) → Sl wr (.slice a' size co) (cstream key nonce n size) := fun a' ha => by
        obtain ⟨a6, c6, e6, _, hr6⟩ := hI.o.sl
        rw [cblks_length] at e6
        injection e6 with e61 _ e63
        have hl := cstream_length key nonce n size
        refine ⟨a', co, by rw [hl], by rw [hl]; omega, fun hne => ?_⟩
        have hp0 : 0 < size := by
          rcases Nat.eq_zero_or_pos size with h | h
          · rw [h] at hl; exact absurd (List.eq_nil_of_length_eq_zero hl) (by rw [← h]; exact hne)
          · exact h
        obtain ⟨bb, oo, e7, hlt7, hc7⟩ := hr6 (by intro e; have := cblks_length key nonce n j; rw [e] at this; simp at this; omega)
        refine ⟨bb, oo, by rw [ha (by omega), e61, e7], hlt7, fun i hi => ?_⟩
        rw [hl] at hi
        rw [hc7 i (by rw [cblks_length]; omega), ← hst]
        simp [List.getD_eq_getElem?_getD, hi]
      have hsz : size ≤ co := by omega
      have SL := Lib.hid hsl; have BB := Lib.hid hI.b
      clear hsl hst hI
      go_wp2_with fail
      go_ret
      refine ⟨_, rfl, ?_, BB.out⟩
      exact SL.out _ (fun _ => rfl)
end Sha
end Go.Proofs.YtjadjidjfkahpaaDoor
namespace Go.Proofs.YtjadjidjfkahpaaDoor
namespace Mem
open Go.RowKit
/-- One element of an own slice set. -/
theorem OwnV.set {w : World} {B : Nat} {e : TypeId} {v : Value} {xs : List Value} (h : OwnV w B e v xs) (i : Nat) (u : Value) (hi : i < xs.length) :
    ∃ g cap C, v = .slice (some ⟨g, 0, none⟩) xs.length cap ∧ B ≤ g ∧ At w g C e ∧ i < C.size ∧ ∀ w', At w' g (C.setIfInBounds i u) e → OwnV w' B e v (xs.set i u) := by
  obtain ⟨_, h | ⟨g, cap, cur, rfl, hg, hh, hn, hc, hs, ht⟩⟩ := h
  · obtain ⟨_, h0⟩ := h
    omega
  · refine ⟨g, cap, cur, rfl, hg, hh, by rw [hs]; omega, fun w' hw' => ⟨by simp, .inr ⟨g, cap, cur.setIfInBounds i u, by rw [List.length_set], hg, hw', by rw [List.length_set]; exact hn, hc, by rw [Array.size_setIfInBounds]; exact hs, ?_⟩⟩⟩
    rw [List.length_set, Array.toList_setIfInBounds, List.take_set, ht]
end Mem
namespace Sha
open Go.RowKit Mem
structure RTInv (L : List (BitVec 8)) (v : Value) (hs : Nat) (w wr : World) : Prop where
  o : OwnB wr hs v L
  b : Below hs w wr
set_option maxRecDepth 100000 in
set_option maxHeartbeats 2000000 in
theorem rturned_any (key nonce : List (BitVec 8)) (n : BitVec 32) (l : List (BitVec 8)) (v : Value) (lk : key.length = 32) (ln : nonce.length = 12) (hz : l.length ≤ 1048576) (w : World) (hv : Sl w v l) :
    Calls Tryd.prog 33 #[.agg (u8s key).toArray, .agg (u8s nonce).toArray, .int .u32 (V n), v] w (RSEnd w (cturn l (cstream key nonce n l.length))) := by
  have hst := fun wx => rstream_good key nonce n l.length lk ln hz wx
  obtain ⟨s, hs⟩ : ∃ s, s = cstream key nonce n l.length := ⟨_, rfl⟩
  have ls : s.length = l.length := by rw [hs]; exact cstream_length _ _ _ _
  rw [← hs] at hst ⊢
  rw [cturn_joinB l s ls.symm]
  have hv0 := hv
  obtain ⟨a0, cap, rfl, _, _⟩ := hv
  have jl := joinTo_length l s ls.symm
  have jz := joinTo_zero l s
  have ja := joinTo_all l s ls.symm
  have js := fun j hj => joinTo_set l s ls.symm j hj
  obtain ⟨m, hm⟩ : ∃ m, m = l.length := ⟨_, rfl⟩
  rw [← hm] at hst jl ja js ls hz hv0 ⊢
  have hmin : min (m : Int) 1048576 = (m : Int) := by omega
  have hmle : (m : Int) ≤ 1048576 := by omega
  have hmlt : ¬ (1048576 : Int) < (m : Int) := by omega
  obtain ⟨C, hC⟩ : ∃ C, C = (u8s key).toArray := ⟨_, rfl⟩
  obtain ⟨D, hD⟩ : ∃ D, D = (u8s nonce).toArray := ⟨_, rfl⟩
  have hCs : C.size = 32 := by rw [hC]; simp [u8s, lk]
  have hDs : D.size = 12 := by rw [hD]; simp [u8s, ln]
  rw [← hC, ← hD] at hst
  rw [← hC, ← hD]
  have aC : At ((w.alloc (.cells C 24)).alloc (.cells D 63)) w.heap.size C 24 := (at_new w C _).alloc _
  have aD : At ((w.alloc (.cells C 24)).alloc (.cells D 63)) (w.heap.size + 1) D 63 := by
    have h := at_new (w.alloc (.cells C 24)) D 63
    simpa using h
  have aB : Below w.heap.size w ((w.alloc (.cells C 24)).alloc (.cells D 63)) := ((Below.refl _ _).alloc (Nat.le_refl _) _).alloc (by simp) _
  have ST := Lib.hid hst; have CS := Lib.hid hCs; have DS := Lib.hid hDs; have AC := Lib.hid aC; have AD := Lib.hid aD; have AB := Lib.hid aB; have HV := Lib.hid hv0
  have JL := Lib.hid jl; have JZ := Lib.hid jz; have JA := Lib.hid ja; have JS := Lib.hid js; have LS := Lib.hid ls; have HM := Lib.hid hm
  clear hst hCs hDs aC aD aB hC hD lk ln hv0 jl jz ja js ls hm hs
  go_enter Tryd.func33, Tryd.ntmps33
  go_wp2_with (first
    | (refine wpList_load_all (by rfl) 24 _ (by rfl) w.heap.size (by rfl) _ Tryd.underlying24 (by rfl) C _ AC.out (by rw [CS.out]; exact info32b) ?_)
    | (refine wpList_load_all (by rfl) 63 _ (by rfl) (w.heap.size + 1) (by rfl) _ Tryd.underlying63 (by rfl) D _ AD.out (by rw [DS.out]; exact info12) ?_))
  refine (ST.out _).mono ?_
  rintro e w4 ⟨vs, rfl, hs4, hb4⟩
  have B4 := Lib.hid (AB.out.trans (hb4.mono AB.out.size)); have HV4 := Lib.hid (HV.out.below (AB.out.trans (hb4.mono AB.out.size)))
  have HS4 := hs4
  obtain ⟨a2, c2, rfl, _, _⟩ := hs4
  rw [LS.out] at HS4 ⊢
  have HS4' := Lib.hid HS4
  clear hb4 HS4 AC AD AB HV ST
  go_wp2_with (first | (at_builtin; refine wpList_append_bytes (by rfl) _ _ (by rfl) w4.heap.size (.slice none 0 0) (.slice a0 m cap) [] l (by rfl) (OwnB.nil _ _) (by rfl) HV4.out (by rw [List.length_nil, ← HM.out]; omega) (Nat.le_refl _) ?_; intro v5 w5 ho5 _ hb5; have O5 : Hid (OwnB w5 w4.heap.size v5 (joinTo l s 0)) := (by rw [JZ.out]; exact ho5); have B5 := Lib.hid hb5; clear ho5 hb5))
  have I5 : Hid (RTInv (joinTo l s 0) v5 w4.heap.size w4 w5) := ⟨O5.out, B5.out⟩
  obtain ⟨hs4, hhs⟩ : ∃ h, h = w4.heap.size := ⟨_, rfl⟩
  have HB4 : Hid (w.heap.size ≤ hs4) := by rw [hhs]; exact B4.out.size
  have HSZ := Lib.hid hhs
  rw [← hhs] at I5
  clear O5 B5 hhs
  go_loopw [11] (fun i wr => ∃ j : Nat, j ≤ m ∧ i = .int .i64 j ∧ RTInv (joinTo l s j) v5 hs4 w4 wr) (fun i _ => m - (intOf i).toNat)
  case atStart => exact ⟨0, by omega, rfl, I5.out⟩
  case round =>
    clear I5
    obtain ⟨j, hj, rfl, hI⟩ := hrel
    by_cases hlt : j < m
    · obtain ⟨x, hxx⟩ : ∃ x, x = l.getD j 0 := ⟨_, rfl⟩
      obtain ⟨y, hyy⟩ : ∃ y, y = s.getD j 0 := ⟨_, rfl⟩
      have hv4 := HV4.out
      have hs5 := HS4'.out
      rw [HM.out] at hv4
      obtain ⟨b1, o1, hb1, cx⟩ := sl_at (i := j) hv4 (by rw [← HM.out]; exact hlt)
      rw [← LS.out] at hs5
      obtain ⟨b2, o2, hb2, cy⟩ := sl_at (i := j) hs5 (by rw [LS.out]; exact hlt)
      rw [hb1, hb2]
      rw [← hxx] at cx
      rw [← hyy] at cy
      have l1 : b1 < hs4 := by rw [HSZ.out]; exact block_lt_of_cell cx
      have l2 : b2 < hs4 := by rw [HSZ.out]; exact block_lt_of_cell cy
      have hset : (u8s (joinTo l s j)).set (0 + j) (.int .u8 (B8 (x ^^^ y))) = u8s (joinTo l s (j + 1)) := by
        rw [← JS.out j hlt, Nat.zero_add, ← hxx, ← hyy]; simp [u8s, List.map_set]; rfl
      obtain ⟨g, co, E, hv5, hg, hE, hEs, hnew⟩ := OwnV.set (ownB_V hI.o) (0 + j) (.int .u8 (B8 (x ^^^ y))) (by rw [u8s_length, JL.out]; omega)
      rw [hset] at hnew
      rw [u8s_length, JL.out] at hv5
      rw [hv5] at hnew ⊢
      have KK := Lib.hid hE; have ES := Lib.hid hEs; have NW := Lib.hid hnew; have BB := Lib.hid hI.b; have C1 := Lib.hid cx; have C2 := Lib.hid cy; have L1 := Lib.hid l1; have L2 := Lib.hid l2; have HG := Lib.hid hg; have HV5 := Lib.hid hv5
      have hlt' : (j : Int) < (m : Int) := by omega
      clear hI hE hEs hnew cx cy l1 l2 hg hset hxx hyy hv4 hs5 hb1 hb2 hv5
      go_wp2_with fail
      refine wp_region_plan_in (fun w' => Below hs4 w4 w') ((.take 0 (.take 1 (.take 2 (.take 3 (.take 4 (.take 5 (.take 6 (.take 7 (.take 8 (.take 9 (.take 10 (.take 11 (.sole 12 .done)))))))))))))) (by kernel_rfl) (by kernel_rfl) (by kernel_rfl) BB.out.drew ?_
      (first | (refine plan_move _ _ (by rfl) (by rfl) (.inl (by rfl)) (by first | (with_reducible exact Mem.ev_const _ _) | (with_reducible exact Mem.ev_zero _ _ _) | (with_reducible (apply Eq.trans (Mem.ev_tmp _ _ _)); simp only [List.getD_cons_succ, List.getD_cons_zero] <;> rfl)) ?_) | (refine plan_move _ _ (by rfl) (by rfl) (.inr (by rfl)) (by first | (with_reducible exact Mem.ev_const _ _) | (with_reducible exact Mem.ev_zero _ _ _) | (with_reducible (apply Eq.trans (Mem.ev_tmp _ _ _)); simp only [List.getD_cons_succ, List.getD_cons_zero] <;> rfl)) ?_) | (refine plan_pick_t _ _ _ _ (by rfl) (by rfl) (by rfl) (by first | (with_reducible exact Mem.ev_const _ _) | (with_reducible exact Mem.ev_zero _ _ _) | (with_reducible (apply Eq.trans (Mem.ev_tmp _ _ _)); simp only [List.getD_cons_succ, List.getD_cons_zero] <;> rfl)) (by first | (with_reducible exact Mem.ev_const _ _) | (with_reducible exact Mem.ev_zero _ _ _) | (with_reducible (apply Eq.trans (Mem.ev_tmp _ _ _)); simp only [List.getD_cons_succ, List.getD_cons_zero] <;> rfl)) ?_) | (refine plan_pick_f _ _ _ _ (by rfl) (by rfl) (by rfl) (by first | (with_reducible exact Mem.ev_const _ _) | (with_reducible exact Mem.ev_zero _ _ _) | (with_reducible (apply Eq.trans (Mem.ev_tmp _ _ _)); simp only [List.getD_cons_succ, List.getD_cons_zero] <;> rfl)) (by first | (with_reducible exact Mem.ev_const _ _) | (with_reducible exact Mem.ev_zero _ _ _) | (with_reducible (apply Eq.trans (Mem.ev_tmp _ _ _)); simp only [List.getD_cons_succ, List.getD_cons_zero] <;> rfl)) ?_))
      (simp only [Act.put, List.setIfInBounds_toArray, List.set_cons_zero, List.set_cons_succ])
      (first | (refine plan_move _ _ (by rfl) (by rfl) (.inl (by rfl)) (by first | (with_reducible exact Mem.ev_const _ _) | (with_reducible exact Mem.ev_zero _ _ _) | (with_reducible (apply Eq.trans (Mem.ev_tmp _ _ _)); simp only [List.getD_cons_succ, List.getD_cons_zero] <;> rfl)) ?_) | (refine plan_move _ _ (by rfl) (by rfl) (.inr (by rfl)) (by first | (with_reducible exact Mem.ev_const _ _) | (with_reducible exact Mem.ev_zero _ _ _) | (with_reducible (apply Eq.trans (Mem.ev_tmp _ _ _)); simp only [List.getD_cons_succ, List.getD_cons_zero] <;> rfl)) ?_) | (refine plan_pick_t _ _ _ _ (by rfl) (by rfl) (by rfl) (by first | (with_reducible exact Mem.ev_const _ _) | (with_reducible exact Mem.ev_zero _ _ _) | (with_reducible (apply Eq.trans (Mem.ev_tmp _ _ _)); simp only [List.getD_cons_succ, List.getD_cons_zero] <;> rfl)) (by first | (with_reducible exact Mem.ev_const _ _) | (with_reducible exact Mem.ev_zero _ _ _) | (with_reducible (apply Eq.trans (Mem.ev_tmp _ _ _)); simp only [List.getD_cons_succ, List.getD_cons_zero] <;> rfl)) ?_) | (refine plan_pick_f _ _ _ _ (by rfl) (by rfl) (by rfl) (by first | (with_reducible exact Mem.ev_const _ _) | (with_reducible exact Mem.ev_zero _ _ _) | (with_reducible (apply Eq.trans (Mem.ev_tmp _ _ _)); simp only [List.getD_cons_succ, List.getD_cons_zero] <;> rfl)) (by first | (with_reducible exact Mem.ev_const _ _) | (with_reducible exact Mem.ev_zero _ _ _) | (with_reducible (apply Eq.trans (Mem.ev_tmp _ _ _)); simp only [List.getD_cons_succ, List.getD_cons_zero] <;> rfl)) ?_))
      (simp only [Act.put, List.setIfInBounds_toArray, List.set_cons_zero, List.set_cons_succ])
      (first | (refine plan_move _ _ (by rfl) (by rfl) (.inl (by rfl)) (by first | (with_reducible exact Mem.ev_const _ _) | (with_reducible exact Mem.ev_zero _ _ _) | (with_reducible (apply Eq.trans (Mem.ev_tmp _ _ _)); simp only [List.getD_cons_succ, List.getD_cons_zero] <;> rfl)) ?_) | (refine plan_move _ _ (by rfl) (by rfl) (.inr (by rfl)) (by first | (with_reducible exact Mem.ev_const _ _) | (with_reducible exact Mem.ev_zero _ _ _) | (with_reducible (apply Eq.trans (Mem.ev_tmp _ _ _)); simp only [List.getD_cons_succ, List.getD_cons_zero] <;> rfl)) ?_) | (refine plan_pick_t _ _ _ _ (by rfl) (by rfl) (by rfl) (by first | (with_reducible exact Mem.ev_const _ _) | (with_reducible exact Mem.ev_zero _ _ _) | (with_reducible (apply Eq.trans (Mem.ev_tmp _ _ _)); simp only [List.getD_cons_succ, List.getD_cons_zero] <;> rfl)) (by first | (with_reducible exact Mem.ev_const _ _) | (with_reducible exact Mem.ev_zero _ _ _) | (with_reducible (apply Eq.trans (Mem.ev_tmp _ _ _)); simp only [List.getD_cons_succ, List.getD_cons_zero] <;> rfl)) ?_) | (refine plan_pick_f _ _ _ _ (by rfl) (by rfl) (by rfl) (by first | (with_reducible exact Mem.ev_const _ _) | (with_reducible exact Mem.ev_zero _ _ _) | (with_reducible (apply Eq.trans (Mem.ev_tmp _ _ _)); simp only [List.getD_cons_succ, List.getD_cons_zero] <;> rfl)) (by first | (with_reducible exact Mem.ev_const _ _) | (with_reducible exact Mem.ev_zero _ _ _) | (with_reducible (apply Eq.trans (Mem.ev_tmp _ _ _)); simp only [List.getD_cons_succ, List.getD_cons_zero] <;> rfl)) ?_))
      (simp only [Act.put, List.setIfInBounds_toArray, List.set_cons_zero, List.set_cons_succ])
      (first | (refine plan_move _ _ (by rfl) (by rfl) (.inl (by rfl)) (by first | (with_reducible exact Mem.ev_const _ _) | (with_reducible exact Mem.ev_zero _ _ _) | (with_reducible (apply Eq.trans (Mem.ev_tmp _ _ _)); simp only [List.getD_cons_succ, List.getD_cons_zero] <;> rfl)) ?_) | (refine plan_move _ _ (by rfl) (by rfl) (.inr (by rfl)) (by first | (with_reducible exact Mem.ev_const _ _) | (with_reducible exact Mem.ev_zero _ _ _) | (with_reducible (apply Eq.trans (Mem.ev_tmp _ _ _)); simp only [List.getD_cons_succ, List.getD_cons_zero] <;> rfl)) ?_) | (refine plan_pick_t _ _ _ _ (by rfl) (by rfl) (by rfl) (by first | (with_reducible exact Mem.ev_const _ _) | (with_reducible exact Mem.ev_zero _ _ _) | (with_reducible (apply Eq.trans (Mem.ev_tmp _ _ _)); simp only [List.getD_cons_succ, List.getD_cons_zero] <;> rfl)) (by first | (with_reducible exact Mem.ev_const _ _) | (with_reducible exact Mem.ev_zero _ _ _) | (with_reducible (apply Eq.trans (Mem.ev_tmp _ _ _)); simp only [List.getD_cons_succ, List.getD_cons_zero] <;> rfl)) ?_) | (refine plan_pick_f _ _ _ _ (by rfl) (by rfl) (by rfl) (by first | (with_reducible exact Mem.ev_const _ _) | (with_reducible exact Mem.ev_zero _ _ _) | (with_reducible (apply Eq.trans (Mem.ev_tmp _ _ _)); simp only [List.getD_cons_succ, List.getD_cons_zero] <;> rfl)) (by first | (with_reducible exact Mem.ev_const _ _) | (with_reducible exact Mem.ev_zero _ _ _) | (with_reducible (apply Eq.trans (Mem.ev_tmp _ _ _)); simp only [List.getD_cons_succ, List.getD_cons_zero] <;> rfl)) ?_))
      (simp only [Act.put, List.setIfInBounds_toArray, List.set_cons_zero, List.set_cons_succ])
      refine plan_index 22 5 _ _ b1 o1 m cap j (by rfl) (by rfl) (by rfl) (by first | (with_reducible exact Mem.ev_const _ _) | (with_reducible exact Mem.ev_zero _ _ _) | (with_reducible (apply Eq.trans (Mem.ev_tmp _ _ _)); simp only [List.getD_cons_succ, List.getD_cons_zero] <;> rfl)) (by first | (with_reducible exact Mem.ev_const _ _) | (with_reducible exact Mem.ev_zero _ _ _) | (with_reducible (apply Eq.trans (Mem.ev_tmp _ _ _)); simp only [List.getD_cons_succ, List.getD_cons_zero] <;> rfl)) (by omega) Tryd.underlying22 (by kernel_rfl) ?_
      (simp only [Act.put, List.setIfInBounds_toArray, List.set_cons_zero, List.set_cons_succ])
      refine plan_cell 5 _ _ _ _ (by rfl) (by rfl) (by rfl) (by first | (with_reducible exact Mem.ev_const _ _) | (with_reducible exact Mem.ev_zero _ _ _) | (with_reducible (apply Eq.trans (Mem.ev_tmp _ _ _)); simp only [List.getD_cons_succ, List.getD_cons_zero] <;> rfl)) (fun w' hw' => (hw'.cell (p := ⟨b1, o1 + j, none⟩) L1.out).trans C1.out) Tryd.underlying5 (by rfl) ?_
      (simp only [Act.put, List.setIfInBounds_toArray, List.set_cons_zero, List.set_cons_succ])
      (first | (refine plan_move _ _ (by rfl) (by rfl) (.inl (by rfl)) (by first | (with_reducible exact Mem.ev_const _ _) | (with_reducible exact Mem.ev_zero _ _ _) | (with_reducible (apply Eq.trans (Mem.ev_tmp _ _ _)); simp only [List.getD_cons_succ, List.getD_cons_zero] <;> rfl)) ?_) | (refine plan_move _ _ (by rfl) (by rfl) (.inr (by rfl)) (by first | (with_reducible exact Mem.ev_const _ _) | (with_reducible exact Mem.ev_zero _ _ _) | (with_reducible (apply Eq.trans (Mem.ev_tmp _ _ _)); simp only [List.getD_cons_succ, List.getD_cons_zero] <;> rfl)) ?_) | (refine plan_pick_t _ _ _ _ (by rfl) (by rfl) (by rfl) (by first | (with_reducible exact Mem.ev_const _ _) | (with_reducible exact Mem.ev_zero _ _ _) | (with_reducible (apply Eq.trans (Mem.ev_tmp _ _ _)); simp only [List.getD_cons_succ, List.getD_cons_zero] <;> rfl)) (by first | (with_reducible exact Mem.ev_const _ _) | (with_reducible exact Mem.ev_zero _ _ _) | (with_reducible (apply Eq.trans (Mem.ev_tmp _ _ _)); simp only [List.getD_cons_succ, List.getD_cons_zero] <;> rfl)) ?_) | (refine plan_pick_f _ _ _ _ (by rfl) (by rfl) (by rfl) (by first | (with_reducible exact Mem.ev_const _ _) | (with_reducible exact Mem.ev_zero _ _ _) | (with_reducible (apply Eq.trans (Mem.ev_tmp _ _ _)); simp only [List.getD_cons_succ, List.getD_cons_zero] <;> rfl)) (by first | (with_reducible exact Mem.ev_const _ _) | (with_reducible exact Mem.ev_zero _ _ _) | (with_reducible (apply Eq.trans (Mem.ev_tmp _ _ _)); simp only [List.getD_cons_succ, List.getD_cons_zero] <;> rfl)) ?_))
      (simp only [Act.put, List.setIfInBounds_toArray, List.set_cons_zero, List.set_cons_succ])
      (first | (refine plan_move _ _ (by rfl) (by rfl) (.inl (by rfl)) (by first | (with_reducible exact Mem.ev_const _ _) | (with_reducible exact Mem.ev_zero _ _ _) | (with_reducible (apply Eq.trans (Mem.ev_tmp _ _ _)); simp only [List.getD_cons_succ, List.getD_cons_zero] <;> rfl)) ?_) | (refine plan_move _ _ (by rfl) (by rfl) (.inr (by rfl)) (by first | (with_reducible exact Mem.ev_const _ _) | (with_reducible exact Mem.ev_zero _ _ _) | (with_reducible (apply Eq.trans (Mem.ev_tmp _ _ _)); simp only [List.getD_cons_succ, List.getD_cons_zero] <;> rfl)) ?_) | (refine plan_pick_t _ _ _ _ (by rfl) (by rfl) (by rfl) (by first | (with_reducible exact Mem.ev_const _ _) | (with_reducible exact Mem.ev_zero _ _ _) | (with_reducible (apply Eq.trans (Mem.ev_tmp _ _ _)); simp only [List.getD_cons_succ, List.getD_cons_zero] <;> rfl)) (by first | (with_reducible exact Mem.ev_const _ _) | (with_reducible exact Mem.ev_zero _ _ _) | (with_reducible (apply Eq.trans (Mem.ev_tmp _ _ _)); simp only [List.getD_cons_succ, List.getD_cons_zero] <;> rfl)) ?_) | (refine plan_pick_f _ _ _ _ (by rfl) (by rfl) (by rfl) (by first | (with_reducible exact Mem.ev_const _ _) | (with_reducible exact Mem.ev_zero _ _ _) | (with_reducible (apply Eq.trans (Mem.ev_tmp _ _ _)); simp only [List.getD_cons_succ, List.getD_cons_zero] <;> rfl)) (by first | (with_reducible exact Mem.ev_const _ _) | (with_reducible exact Mem.ev_zero _ _ _) | (with_reducible (apply Eq.trans (Mem.ev_tmp _ _ _)); simp only [List.getD_cons_succ, List.getD_cons_zero] <;> rfl)) ?_))
      (simp only [Act.put, List.setIfInBounds_toArray, List.set_cons_zero, List.set_cons_succ])
      refine plan_index 22 5 _ _ b2 o2 m c2 j (by rfl) (by rfl) (by rfl) (by first | (with_reducible exact Mem.ev_const _ _) | (with_reducible exact Mem.ev_zero _ _ _) | (with_reducible (apply Eq.trans (Mem.ev_tmp _ _ _)); simp only [List.getD_cons_succ, List.getD_cons_zero] <;> rfl)) (by first | (with_reducible exact Mem.ev_const _ _) | (with_reducible exact Mem.ev_zero _ _ _) | (with_reducible (apply Eq.trans (Mem.ev_tmp _ _ _)); simp only [List.getD_cons_succ, List.getD_cons_zero] <;> rfl)) (by omega) Tryd.underlying22 (by kernel_rfl) ?_
      (simp only [Act.put, List.setIfInBounds_toArray, List.set_cons_zero, List.set_cons_succ])
      refine plan_cell 5 _ _ _ _ (by rfl) (by rfl) (by rfl) (by first | (with_reducible exact Mem.ev_const _ _) | (with_reducible exact Mem.ev_zero _ _ _) | (with_reducible (apply Eq.trans (Mem.ev_tmp _ _ _)); simp only [List.getD_cons_succ, List.getD_cons_zero] <;> rfl)) (fun w' hw' => (hw'.cell (p := ⟨b2, o2 + j, none⟩) L2.out).trans C2.out) Tryd.underlying5 (by rfl) ?_
      (simp only [Act.put, List.setIfInBounds_toArray, List.set_cons_zero, List.set_cons_succ])
      refine plan_bin _ _ _ _ _ _ _ _ (by rfl) (by rfl) (by rfl) (by first | (with_reducible exact Mem.ev_const _ _) | (with_reducible exact Mem.ev_zero _ _ _) | (with_reducible (apply Eq.trans (Mem.ev_tmp _ _ _)); simp only [List.getD_cons_succ, List.getD_cons_zero] <;> rfl)) (by first | (with_reducible exact Mem.ev_const _ _) | (with_reducible exact Mem.ev_zero _ _ _) | (with_reducible (apply Eq.trans (Mem.ev_tmp _ _ _)); simp only [List.getD_cons_succ, List.getD_cons_zero] <;> rfl)) (fun wx => o_xorb _ _ _ _ _ _ wx) ?_
      (simp only [Act.put, List.setIfInBounds_toArray, List.set_cons_zero, List.set_cons_succ])
      refine plan_index 22 5 _ _ g 0 m co j (by rfl) (by rfl) (by rfl) (by first | (with_reducible exact Mem.ev_const _ _) | (with_reducible exact Mem.ev_zero _ _ _) | (with_reducible (apply Eq.trans (Mem.ev_tmp _ _ _)); simp only [List.getD_cons_succ, List.getD_cons_zero] <;> rfl)) (by first | (with_reducible exact Mem.ev_const _ _) | (with_reducible exact Mem.ev_zero _ _ _) | (with_reducible (apply Eq.trans (Mem.ev_tmp _ _ _)); simp only [List.getD_cons_succ, List.getD_cons_zero] <;> rfl)) (by omega) Tryd.underlying22 (by kernel_rfl) ?_
      (simp only [Act.put, List.setIfInBounds_toArray, List.set_cons_zero, List.set_cons_succ])
      refine plan_store_one 5 _ _ g (0 + j) (.int .u8 (B8 (x ^^^ y))) E 5 (by rfl) (by rfl) (by rfl) (by rfl) (by first | (with_reducible exact Mem.ev_const _ _) | (with_reducible exact Mem.ev_zero _ _ _) | (with_reducible (apply Eq.trans (Mem.ev_tmp _ _ _)); simp only [List.getD_cons_succ, List.getD_cons_zero] <;> rfl)) (by first | (with_reducible exact Mem.ev_const _ _) | (with_reducible exact Mem.ev_zero _ _ _) | (with_reducible (apply Eq.trans (Mem.ev_tmp _ _ _)); simp only [List.getD_cons_succ, List.getD_cons_zero] <;> rfl)) (by rfl) infoB KK.out ES.out (BB.out.drew.setCell HG.out _) ?_
      refine plan_nil ?_
      have o7 : OwnB (wr.drew.setCell ⟨g, 0 + j, none⟩ (.int .u8 (B8 (x ^^^ y)))) hs4 v5 (joinTo l s (j + 1)) := by
        rw [HV5.out]; exact ownV_B (NW.out _ (At.set (w := wr.drew) KK.out _ _))
      have I7 : Hid (RTInv (joinTo l s (j + 1)) v5 hs4 w4 (wr.drew.setCell ⟨g, 0 + j, none⟩ (.int .u8 (B8 (x ^^^ y))))) := ⟨o7, BB.out.drew.setCell HG.out _⟩
      clear o7
      generalize wr.drew.setCell ⟨g, 0 + j, none⟩ (.int .u8 (B8 (x ^^^ y))) = w7 at *
      go_wp2_with fail
      go_roundw
      case rel => exact ⟨j + 1, by omega, by go_num, by have h := I7.out; rw [HV5.out] at h; exact h⟩
      case measure => simp [intOf]; omega
    · have hjm : j = m := by omega
      have hge : ¬ (j : Int) < (m : Int) := by omega
      rw [hjm, JA.out] at hI
      have II := Lib.hid hI
      clear hI hjm hlt hj
      go_wp2_with fail
      go_ret
      exact ⟨_, rfl, II.out.o.sl, B4.out.trans (II.out.b.mono HB4.out)⟩
end Sha
end Go.Proofs.YtjadjidjfkahpaaDoor
