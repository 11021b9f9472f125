/- Package dev: bytes.Equal, slices.Equal of ints, Same: walks. -/
import Derived.Test.YtkgpcgkikenljaaDevPNew
import Derived.Test.YtkgpcgkikenljaaDevPMem
import Derived.Test.YtkgpcgkikenljaaDevEq
import Derived.Laws.BytesArg
namespace Go.Proofs.Ytkgpcgkikenljaa
namespace Sha
open Go.RowKit Mem
def i8s (l : List (BitVec 8)) : List Int := l.map fun x => (x.toNat : Int)
theorem str_inj (l m : List (BitVec 8)) : ((strOfNums (i8s l)).toList == (strOfNums (i8s m)).toList) = decide (l = m) := by
  have h1 : ∀ l : List (BitVec 8), (strOfNums (i8s l)).data.toList = l.map UInt8.ofBitVec := fun l => by
    rw [strOfNums_data, i8s, List.map_map]
    exact List.map_congr_left fun x _ => by
      show UInt8.ofNat ((x.toNat : Int)).toNat = UInt8.ofBitVec x
      rw [Int.toNat_natCast]
      exact UInt8.toBitVec_inj.1 (by first | simp | (apply BitVec.eq_of_toNat_eq; simp))
  have h2 : ∀ s : ByteArray, s.toList = s.data.toList := fun s => by first | exact ByteArray.toList_eq s | simp [ByteArray.toList_eq_data_toList] | exact Go.ByteArray.toList_eq s
  rw [h2, h2, h1, h1, Bool.eq_iff_iff, beq_iff_eq, decide_eq_true_iff]
  exact List.map_inj_right fun a b h => by injection h
theorem conv_sl {w : World} {a : Addr} {n c : Nat} {l : List (BitVec 8)} (h : Sl w (.slice (some a) n c) l) (hn : n = l.length) (hne : l ≠ []) : (convert 27 9 (.slice (some a) n c)).run Try.prog w = .ok (.string (strOfNums (i8s l))) w := by
  obtain ⟨a', c', e, _, hr⟩ := h
  obtain ⟨b, o, ea, _, hc⟩ := hr hne
  injection e with e1 _ _
  rw [ea] at e1
  injection e1 with e1
  subst e1
  refine run_convert_bytes_arg w 27 5 Try.underlying27 Try.underlying5 b o n c (i8s l) (by simp [i8s, hn]) (fun i hi => ?_) 9 Try.underlying9
  rw [hc i (by omega)]
  have hl : i < l.length := by omega
  simp [i8s, List.getD_eq_getElem?_getD, hl]
set_option maxRecDepth 100000 in
set_option maxHeartbeats 1000000 in
theorem bequal_any (l m : List (BitVec 8)) (a1 a2 : Addr) (n1 c1 n2 c2 : Nat) (w : World) (h1 : Sl w (.slice (some a1) n1 c1) l) (h2 : Sl w (.slice (some a2) n2 c2) m) (e1 : n1 = l.length) (e2 : n2 = m.length) (hl : l ≠ []) (hm : m ≠ []) :
    Calls Try.prog 42 #[.slice (some a1) n1 c1, .slice (some a2) n2 c2] w fun e w' => e = .returned (.bool (decide (l = m))) ∧ w = w' := by
  have k1 := conv_sl h1 e1 hl
  have k2 := conv_sl h2 e2 hm
  have hs := str_inj l m
  obtain ⟨S1, hS1⟩ : ∃ S1, S1 = strOfNums (i8s l) := ⟨_, rfl⟩
  obtain ⟨S2, hS2⟩ : ∃ S2, S2 = strOfNums (i8s m) := ⟨_, rfl⟩
  rw [← hS1] at k1 hs
  rw [← hS2] at k2 hs
  have HS := Lib.hid hs
  clear h1 h2 e1 e2 hl hm hs hS1 hS2
  go_enter Try.func42, Try.ntmps42
  go_wp2
  go_ret
  exact ⟨by rw [← HS.out]; rfl, rfl⟩
set_option maxRecDepth 100000 in
set_option maxHeartbeats 2000000 in
theorem iequal_any {F1 F2 : Foot} (l m : List Int) (v u : Value) (w : World) (hv : SlR F1 w 1 v l.length (i64s l)) (hu : SlR F2 w 1 u m.length (i64s m)) (hl : l.length ≤ 1000000) (_hm : m.length ≤ 1000000) :
    Calls Try.prog 43 #[v, u] w fun e w' => e = .returned (.bool (decide (l = m))) ∧ Below w.heap.size w w' := by
  obtain ⟨a1, c1, rfl⟩ : ∃ a c, v = .slice a l.length c := by obtain ⟨_, a, c, e, _⟩ := hv; exact ⟨a, c, e⟩
  obtain ⟨a2, c2, rfl⟩ : ∃ a c, u = .slice a m.length c := by obtain ⟨_, a, c, e, _⟩ := hu; exact ⟨a, c, e⟩
  by_cases hlen : l.length = m.length
  · have hdec : (∀ k, k < l.length → l.getD k 0 = m.getD k 0) → decide (l = m) = true := fun h => by
      rw [decide_eq_true_iff]
      refine List.ext_getElem hlen fun i h1 h2 => ?_
      have := h i h1
      simpa [List.getD_eq_getElem?_getD, h1, h2] using this
    have hdf : ∀ j, j < l.length → l.getD j 0 ≠ m.getD j 0 → decide (l = m) = false := fun j _ hne => by
      rw [decide_eq_false_iff_not]
      intro e
      exact hne (by rw [e])
    obtain ⟨n, hn⟩ : ∃ n, n = l.length := ⟨_, rfl⟩
    rw [← hlen] at hu ⊢
    rw [← hn] at hv hu hl hdec hdf ⊢
    have HV := Lib.hid hv; have HU := Lib.hid hu; have HD := Lib.hid hdec; have HF := Lib.hid hdf
    clear hv hu hn hlen hdec hdf
    go_enter Try.func43, Try.ntmps43
    go_wp2_with fail
    go_loopw [13] (fun i wr => ∃ j : Nat, j ≤ n ∧ i = .int .i64 j ∧ (∀ k, k < j → l.getD k 0 = m.getD k 0) ∧ ∃ q, wr = w.drewN q) (fun i _ => n - (intOf i).toNat)
    case atStart => exact ⟨0, Nat.zero_le _, rfl, fun _ h => absurd h (by omega), 0, rfl⟩
    case round =>
      obtain ⟨j, hj, rfl, hall, q, rfl⟩ := hrel
      have HA := Lib.hid hall
      clear hall
      by_cases hlt : j < n
      · obtain ⟨b1, o1, rfl, cl⟩ := i64s_at HV.out hlt
        obtain ⟨b2, o2, rfl, cm⟩ := i64s_at HU.out hlt
        have zn : (j : Int) < (n : Int) := by omega
        by_cases hxy : l.getD j 0 = m.getD j 0
        · have hnext : ∀ k, k < j + 1 → l.getD k 0 = m.getD k 0 := fun k hk => by
            by_cases h : k < j
            · exact HA.out k h
            · rw [show k = j by omega]; exact hxy
          have HN := Lib.hid hnext
          clear hnext
          rw [← hxy] at cm
          obtain ⟨x, hx⟩ : ∃ x, x = l.getD j 0 := ⟨_, rfl⟩
          rw [← hx] at cl cm
          clear hx hxy
          go_wp2
          go_quiet (fail)
          go_wp2
          go_roundw
          case rel => exact ⟨j + 1, by omega, by go_num, HN.out, _, rfl⟩
          case measure => simp [intOf]; omega
        · have hf := HF.out j hlt hxy
          have HFF := Lib.hid hf
          clear hf
          obtain ⟨x, hx⟩ : ∃ x, x = l.getD j 0 := ⟨_, rfl⟩
          obtain ⟨y, hy⟩ : ∃ y, y = m.getD j 0 := ⟨_, rfl⟩
          rw [← hx] at cl hxy
          rw [← hy] at cm hxy
          clear hx hy
          go_wp2
          go_quiet (fail)
          go_wp2
          go_ret
          exact ⟨by rw [HFF.out]; rfl, ⟨rfl, rfl, rfl, Nat.le_refl _, fun _ _ => rfl⟩⟩
      · have hge : ¬ (j : Int) < (n : Int) := by omega
        have hjn : j = n := by omega
        subst hjn
        have ht := HD.out HA.out
        have HT := Lib.hid ht
        clear ht
        go_wp2
        go_ret
        exact ⟨by rw [HT.out]; rfl, ⟨rfl, rfl, rfl, Nat.le_refl _, fun _ _ => rfl⟩⟩
  · have hdf : decide (l = m) = false := by
      rw [decide_eq_false_iff_not]
      intro e
      exact hlen (by rw [e])
    obtain ⟨n1, hn1⟩ : ∃ n1, n1 = l.length := ⟨_, rfl⟩
    obtain ⟨n2, hn2⟩ : ∃ n2, n2 = m.length := ⟨_, rfl⟩
    rw [← hn1, ← hn2] at hlen ⊢
    have hne : ¬ (n1 : Int) = (n2 : Int) := by omega
    have HF := Lib.hid hdf
    clear hv hu hdf hn1 hn2 hlen
    go_enter Try.func43, Try.ntmps43
    go_wp2
    go_ret
    exact ⟨by rw [HF.out]; rfl, Below.refl _ _⟩
end Sha
end Go.Proofs.Ytkgpcgkikenljaa
