/- Layer 15, LruOldest: of pages that are put one after the other the one goes that was used the longest ago. For every input (written by lruold.py). -/
import Derived.Test.YteiffdccfmfdbaaLruPr
import Derived.Test.YteiffdccfmfdbaaOff
import Derived.Deep.Cut
namespace Go.Proofs.Yteiffdccfmfdbaa
namespace Sha
open Go.RowKit Mem Lru
theorem ownO_sli {w : World} {B : Nat} {e : TypeId} {v : Value} {l : List Int} (h : OwnO w B e v (iz l)) : SlI w v l := by
  obtain ⟨a, cap, rfl, hc, hr⟩ := OwnO.cells h
  rw [iz_length] at hc
  refine ⟨a, cap, by rw [iz_length], hc, fun hne => ?_⟩
  obtain ⟨b, o, ea, hlt, hcell⟩ := hr (by intro e0; exact hne (by simpa [iz] using e0))
  exact ⟨b, o, ea, hlt, fun i hi => hcell i _ (iz_get l i hi)⟩
theorem ownO_hd {w : World} {B : Nat} {e : TypeId} {v : Value} {l : List Int} (h : OwnO w B e v (iz l)) : ∃ a c, v = .slice a l.length c := by
  obtain ⟨a, c, e⟩ := OwnO.hd h
  exact ⟨a, c, by rw [e, iz_length]⟩
theorem unl_take {x : Int} {us : List Int} {j : Nat} (hj : j < us.length) : unl x (us.take (j + 1)) = unl x (us.take j) ++ (if us.getD j 0 = x then [] else [us.getD j 0]) := by
  unfold unl
  rw [List.take_add_one, List.getElem?_eq_getElem hj, List.filter_append]
  have : us.getD j 0 = us[j] := by simp [List.getD_eq_getElem?_getD, hj]
  rw [this]
  by_cases e : us[j] = x <;> simp [e]
/-- What the law's loop keeps. -/
structure Old (b room : Nat) (w : World) (k : Nat) (v : Value) (l : List Hd) (wr : World) : Prop where
  c : CPr b room k l w wr (fun j => v.ownBlock = some j)
  o : OwnO wr w.heap.size 3 v (iz (osOf l))
  p : ∀ h ∈ l, h.pin = false
  l : l.length ≤ room

theorem ownO_base {w : World} {B B' : Nat} {e : TypeId} {v : Value} {xs : List Value} (h : OwnO w B e v xs) (hB : B' ≤ B) : OwnO w B' e v xs := by
  rcases h with h | ⟨g, off, cap, cur, rfl, hg, hr⟩
  · exact .inl h
  · exact .inr ⟨g, off, cap, cur, rfl, Nat.le_trans hB hg, hr⟩
set_option maxRecDepth 100000 in
set_option maxHeartbeats 2000000 in
theorem oldest_core (x0 : BitVec 8) (li : List (BitVec 8)) (vi : Value) (w : World) (hi : Sl w vi li) (hl : li.length ≤ 9223372036854775807) : Calls Try.prog 6 #[.int .u8 (x0.toNat : Int), vi] w fun e w' => e = .returned (.bool true) ∧ Below w.heap.size w w' := by
  obtain ⟨a0, cap0, rfl, hcap0, _⟩ := id hi
  obtain ⟨room, hroom⟩ : ∃ room : Nat, room = x0.toNat % 8 + 1 := ⟨_, rfl⟩
  have hx0 := x0.isLt
  have hr1 : 1 ≤ room := by omega
  have hr2 : room ≤ 8 := by omega
  have hre : ((x0.toNat : Int) % 8 + 1) = (room : Int) := by omega
  obtain ⟨m, hm⟩ : ∃ m, m = min li.length 100 := ⟨_, rfl⟩
  have hm100 : m ≤ 100 := by omega
  have hml : m ≤ li.length := by omega
  have hmc : m ≤ cap0 := by omega
  have hmin : min (li.length : Int) 100 = (m : Int) := by omega
  have hnew := m_new room w w hr1 (by omega) (Below.refl _ _)
  have NW := Lib.hid hnew; have SI := Lib.hid hi; have RE := Lib.hid hre; have HML := Lib.hid hml
  clear hnew hi hre hml hm hroom hcap0
  go_enter Try.func6, Try.ntmps6
  go_wp2_with fail
  rw [RE.out]
  refine NW.out.mono ?_
  rintro e wn ⟨b, rfl, h1⟩
  have I0 : Hid (Old b room w 0 (.slice none 0 0) [] wn) := Lib.hid ⟨h1.pr.turn (Chg.refl _ _) (fun k hk => by simp [Value.ownBlock] at hk) (fun k hk => by simp [Value.ownBlock] at hk), .inl ⟨rfl, rfl⟩, by simp, by simp⟩
  clear NW RE h1
  go_wp2_with fail
  go_loopw [8, 41] (fun a8 a41 wr => ∃ (k : Nat) (l : List Hd), k ≤ m ∧ a41 = .int .i64 (k : Int) ∧ Old b room w k a8 l wr) (fun _ i _ => m - (Go.RowKit.intOf i).toNat)
  case atStart => exact ⟨0, [], Nat.zero_le _, rfl, I0.out⟩
  case round =>
    clear I0
    obtain ⟨k, l, hk, rfl, hI⟩ := hrel
    generalize wr = w1 at hI ⊢
    obtain ⟨a8, c8, hv8⟩ := ownO_hd hI.o
    obtain ⟨n8, hn8⟩ : ∃ n8, n8 = l.length := ⟨_, rfl⟩
    rw [osOf_len, ← hn8] at hv8
    subst hv8
    have hb1 := hI.c.b
    have hn8r : n8 ≤ room := by rw [hn8]; exact hI.l
    by_cases hlt : k < m
    · have hlt' : (k : Int) < (m : Int) := by omega
      obtain ⟨gb, ob, rfl, hby0⟩ := sl_at (SI.out.below hb1) (i := k) (by have := HML.out; omega)
      obtain ⟨x, hx⟩ : ∃ x, x = li.getD k 0 := ⟨_, rfl⟩
      rw [← hx] at hby0
      have hbyte : w1.cell? ⟨gb, ob + k, none⟩ = some (.int .u8 (x.toNat : Int)) := hby0
      clear hby0
      obtain ⟨y, hy⟩ : ∃ y : Int, y = (x.toNat : Int) % 20 := ⟨_, rfl⟩
      have hy0 : 0 ≤ y ∧ y < 4096 := by have := x.isLt; omega
      have I := Lib.hid hI; have B1 := Lib.hid hb1; have HY := Lib.hid hy; have N8 := Lib.hid hn8; have Y0 := Lib.hid hy0
      have HKM : Hid (k < 100) := Lib.hid (by omega)
      have hxl := x.isLt
      clear hI hb1 hy hn8 hx hy0
      go_wp2_with fail
      rw [← HY.out]
      go_loopw [12, 50] (fun a12 a50 wr => ∃ j : Nat, j ≤ n8 ∧ a50 = .int .i64 (j : Int) ∧ OwnV wr w1.heap.size 3 a12 (iz (unl y ((osOf l).take j))) ∧ Below w1.heap.size w1 wr) (fun _ i _ => n8 - (Go.RowKit.intOf i).toNat)
      case atStart => exact ⟨0, Nat.zero_le _, rfl, OwnV.nil _ _ _, Below.refl _ _⟩
      case round =>
        obtain ⟨j, hj, rfl, ho, hb2⟩ := hrel
        generalize wr = w2 at ho hb2 ⊢
        clear hbyte
        by_cases hjl : j < n8
        · have hjl' : (j : Int) < (n8 : Int) := by omega
          obtain ⟨g2, o2, rfl, _, d2⟩ := sli_at ((ownO_sli I.out.o).below hb2) (by rw [osOf_len, ← N8.out]) hjl
          have htk := unl_take (x := y) (us := osOf l) (j := j) (by rw [osOf_len, ← N8.out]; exact hjl)
          obtain ⟨u, hu⟩ : ∃ u, u = (osOf l).getD j 0 := ⟨_, rfl⟩
          rw [← hu] at d2 htk
          obtain ⟨ra, hra⟩ : ∃ ra, ra = unl y ((osOf l).take j) := ⟨_, rfl⟩
          rw [← hra] at ho htk
          have hral : ra.length ≤ 100 := by
            rw [hra]
            have h1 := unl_len y ((osOf l).take j)
            rw [List.length_take] at h1
            omega
          have O2 := Lib.hid ho; have B2 := Lib.hid hb2; have TK := Lib.hid htk; have RL := Lib.hid hral
          by_cases hne : u = y
          · subst hne
            clear ho hb2 htk hral hu hra
            go_wp2_with fail
            go_roundw
            case rel => exact ⟨j + 1, by omega, by go_num, by rw [TK.out]; simpa using O2.out, B2.out⟩
            case measure => simp [Go.RowKit.intOf]; omega
          · obtain ⟨a12, c12, hv⟩ := rows_hd ho
            rw [iz_length] at hv
            obtain ⟨n12, hn12⟩ : ∃ n12, n12 = ra.length := ⟨_, rfl⟩
            rw [← hn12] at hv
            subst hv
            clear O2
            have O2 := Lib.hid ho
            clear ho hb2 htk hral hu hra hn12
            have hne' : u ≠ y := hne
            go_wp2_with (at_builtin; refine Mem.wpList_append_lit (B := w1.heap.size) (v := .slice a12 n12 c12) (xs := iz ra) (e := 3) (w := w2) (by rfl) _ _ 47 (by rfl) (.int .i64 u) (.int .i64 0) 8 elemInt (by rfl) (by rfl) O2.out (by rfl) (by rfl) (by have := RL.out; rw [iz_length]; omega) (by have := RL.out; rw [iz_length]; omega) B2.out.size ?_; intro v5 w5 ho5 _ hb5 _; have O5 : Hid (OwnV w5 w1.heap.size 3 v5 (iz (ra ++ [u]))) := Lib.hid (by rw [iz_snoc]; exact ho5); have B5 : Hid (Below w1.heap.size w1 w5) := Lib.hid (B2.out.trans hb5); clear ho5 hb5 d2)
            go_roundw
            case rel => exact ⟨j + 1, by omega, by go_num, by rw [TK.out, if_neg hne']; exact O5.out, B5.out⟩
            case measure => simp [Go.RowKit.intOf]; omega
        · have hjm : j = n8 := by omega
          subst hjm
          have htk : (osOf l).take j = osOf l := by rw [List.take_of_length_le]; rw [osOf_len, N8.out]; exact Nat.le_refl _
          rw [htk] at ho
          have hput := put_plain I.out.c.mine.ok I.out.p I.out.l hr1 Y0.out [x]
          obtain ⟨l2, hl2⟩ : ∃ l2, l2 = (putH room l y [x]).1 := ⟨_, rfl⟩
          have PL2 := Lib.hid hl2
          rw [← hl2] at hput
          obtain ⟨p1, p2, p3, p4⟩ := hput
          obtain ⟨a3, c3, hv⟩ := rows_hd ho
          rw [iz_length] at hv
          subst hv
          have hrl := unl_len y (osOf l)
          rw [osOf_len, ← N8.out] at hrl
          have B2 := Lib.hid hb2; have P0 := Lib.hid p1; have PP := Lib.hid p2; have PLN := Lib.hid p3
          rcases p4 with ⟨q1, z, rho, q2, q3, q4⟩ | ⟨q1, q2, q3⟩
          · have hcell := sli_at (ownV_sli ho) rfl (i := 0) (by rw [q1]; omega)
            obtain ⟨g3, o3, rfl, _, d3⟩ := hcell
            have hz : (unl y (osOf l)).getD 0 0 = z := by rw [q2]; rfl
            rw [hz] at d3
            rw [q1, q2] at ho
            have ho' := OwnV.off ho
            have hiz : iz (z :: rho) = .int .i64 z :: iz rho := rfl
            rw [hiz] at ho'
            have htl := OwnO.tail ho'
            obtain ⟨a3, ha3⟩ : ∃ a3, a3 = (if c3 = 1 then some ⟨g3, o3, none⟩ else (some ⟨g3, o3, none⟩ : Option Addr).map (·.add 1)) := ⟨_, rfl⟩
            rw [← ha3] at htl
            have hr3 : rho.length ≤ 1000 := by have : (unl y (osOf l)).length = rho.length + 1 := (by rw [q2]; rfl); omega
            rw [q1]
            obtain ⟨n3, hn3⟩ : ∃ n3, n3 = room - 1 := ⟨_, rfl⟩
            obtain ⟨k3, hk3⟩ : ∃ k3, k3 = c3 - 1 := ⟨_, rfl⟩
            rw [← hn3, ← hk3] at htl
            have R3 := Lib.hid htl; have RL := Lib.hid hr3; have PZ := Lib.hid q3; have PO := Lib.hid q4; have HA3 := Lib.hid ha3; have HN3 := Lib.hid hn3; have HK3 := Lib.hid hk3
            have d3 : w2.cell? ⟨g3, o3, none⟩ = some (.int .i64 z) := d3
            clear ho htk hl2 p1 p2 p3 q1 q2 q3 q4 hrl hb2 ho' htl hr3 hz hiz ha3 hn3 hk3
            go_wp2_with (first
              | (refine wpList_slice_tail (by rfl) 47 _ _ (by rfl) 3 Try.underlying47 infoInt (some ⟨g3, o3, none⟩) room c3 (by rfl) (by rfl) hr1 a3 HA3.out ?_; rw [← HN3.out, ← HK3.out]; clear d3)
              | (at_builtin; refine wpList_append_off (B := w1.heap.size) (v := .slice a3 n3 k3) (xs := iz rho) (e := 3) (w := w2) (by rfl) _ _ 47 (by rfl) (.int .i64 y) (.int .i64 0) 8 elemInt (by rfl) (by rfl) R3.out (by rfl) (by rfl) (by have := RL.out; rw [iz_length]; omega) (by have := RL.out; rw [iz_length]; omega) B2.out.size ?_; intro v5 w5 ho5 hk5 hb5 hv5; have O5 : Hid (OwnO w5 w1.heap.size 3 v5 (iz (rho ++ [y]))) := Lib.hid (by rw [iz_snoc]; exact ho5); have B5 : Hid (Below w1.heap.size w1 w5) := Lib.hid (B2.out.trans hb5); clear ho5 hk5 hb5 hv5)
              | fail)
            obtain ⟨a5, c5, rfl⟩ := ownO_hd O5.out
            have hpr5 : CPr b room k l w w5 (fun j => (Value.slice a5 (rho ++ [y]).length c5).ownBlock = some j) := I.out.c.turn (Chg.of_below B5.out) (fun j hj => .inr (OwnO.lt O5.out j hj).1) fun j hj => (OwnO.lt O5.out j hj).2
            have hsl5 : Sl (w5.alloc (.cells #[.int .u8 (x.toNat : Int)] 5)) (.slice (some ⟨w5.heap.size, 0, none⟩) 1 1) [x] := at_sl (at_new w5 _ _) rfl
            have hal5 : Below w5.heap.size w5 (w5.alloc (.cells #[.int .u8 (x.toNat : Int)] 5)) := (Below.refl _ _).alloc (Nat.le_refl _) _
            have hput := q_put (hpr5.below hal5) y [x] _ hsl5 (by simp) (by have := HKM.out; omega)
            have PUT := Lib.hid hput; have AL5 := Lib.hid hal5
            obtain ⟨n5, hn5⟩ : ∃ n5, n5 = (rho ++ [y]).length := ⟨_, rfl⟩
            have hput : Calls Try.prog 19 #[cq b, .int .i64 y, .slice (some ⟨w5.heap.size, 0, none⟩) 1 1] (w5.alloc (.cells #[.int .u8 (x.toNat : Int)] 5)) fun e w' => e = .returned (.tuple #[.int .i64 z, .int .i64 0]) ∧ PrEnd b room (k + 1) l2 w (w5.alloc (.cells #[.int .u8 (x.toNat : Int)] 5)) (fun j => (Value.slice a5 n5 c5).ownBlock = some j) w' := by
              have := PUT.out
              rw [PZ.out, P0.out, ← PL2.out, ← hn5] at this
              exact this
            have O5' : Hid (OwnO w5 w1.heap.size 3 (.slice a5 n5 c5) (iz (rho ++ [y]))) := Lib.hid (by rw [hn5]; exact O5.out)
            have N5 : Hid (n5 = l2.length) := Lib.hid (by rw [hn5, ← PO.out, osOf_len])
            clear PUT O5
            have PUT := Lib.hid hput
            clear hput hpr5 hsl5 hal5
            rw [← hn5]
            clear hn5
            go_wp2_with (first
              | (go_at_call 19; refine PUT.out.mono ?_; rintro e w6 ⟨rfl, hq⟩; have Q6 := Lib.hid hq; have M6 : Hid (CMine b room (k + 1) l2 w w6) := Lib.hid hq.c.mine; have U6 : Hid (OwnO w6 w.heap.size 3 (.slice a5 n5 c5) (iz (osOf l2))) := Lib.hid (by rw [PO.out]; exact ownO_base ((O5'.out.below AL5.out).keep fun g hg => hq.k g hg) B1.out.size); clear hq)
              | (go_at_call 22; refine (m_len M6.out).mono ?_; rintro e w7 ⟨rfl, hw7⟩; have hw8 := hw7.symm; clear hw7; subst hw8; rw [← N5.out])
              | fail)
            have hn5b : n5 ≤ 8 := by have := N5.out; have := PLN.out; omega
            go_loopw [99] (fun a99 wr => ∃ j : Nat, j ≤ n5 ∧ a99 = .int .i64 (j : Int) ∧ wr = w6) (fun i _ => n5 - (Go.RowKit.intOf i).toNat)
            case atStart => exact ⟨0, Nat.zero_le _, rfl, rfl⟩
            case round =>
              obtain ⟨j, hj, rfl, hwr⟩ := hrel
              have hwr2 := hwr.symm
              clear hwr
              subst hwr2
              by_cases hlj : j < n5
              · have hlj' : (j : Int) < (n5 : Int) := by omega
                obtain ⟨g7, o7, rfl, _, d7⟩ := sli_at (ownO_sli U6.out) (by rw [osOf_len, ← N5.out]) hlj
                obtain ⟨hw7, hs7⟩ := os_wf M6.out.ok (k := j) (by rw [← N5.out]; exact hlj)
                rw [pgOf_some] at hs7
                obtain ⟨u7, hu7⟩ : ∃ u7, u7 = (osOf l2).getD j 0 := ⟨_, rfl⟩
                rw [← hu7] at d7 hw7 hs7
                have hh7 := m_has M6.out u7 hw7
                rw [hs7] at hh7
                have HH7 := Lib.hid hh7
                clear hh7 hw7 hs7 hu7
                go_wp2_with (go_at_call 24; refine HH7.out.mono ?_; rintro e w8 ⟨rfl, hw8⟩; have hw9 := hw8.symm; clear hw8; subst hw9)
                go_roundw
                case rel => exact ⟨j + 1, by omega, by go_num, by first | trivial | rfl⟩
                case measure => simp [Go.RowKit.intOf]; omega
              · have hjm : j = n5 := by omega
                subst hjm
                go_wp2_with fail
                go_roundw
                case rel => exact ⟨k + 1, l2, by omega, by go_num, ⟨Q6.out.c, U6.out, PP.out, PLN.out⟩⟩
                case measure => simp [Go.RowKit.intOf]; omega
          · have hr3 : (unl y (osOf l)).length ≤ 1000 := by omega
            obtain ⟨rho, hrho⟩ : ∃ rho, rho = unl y (osOf l) := ⟨_, rfl⟩
            rw [← hrho] at ho q1 q3 hr3
            obtain ⟨n3, hn3⟩ : ∃ n3, n3 = rho.length := ⟨_, rfl⟩
            rw [← hrho, ← hn3]
            rw [← hn3] at ho q1
            have q1' : ¬ (n3 : Int) = (room : Int) := by omega
            have R3 := Lib.hid (OwnV.off ho); have RL := Lib.hid hr3; have PZ := Lib.hid q2; have PO := Lib.hid q3
            clear ho htk hl2 p1 p2 p3 q1 q2 q3 hrl hb2 hr3 hn3 hrho
            go_wp2_with (first
              | (at_builtin; refine wpList_append_off (B := w1.heap.size) (v := .slice a3 n3 c3) (xs := iz rho) (e := 3) (w := w2) (by rfl) _ _ 47 (by rfl) (.int .i64 y) (.int .i64 0) 8 elemInt (by rfl) (by rfl) R3.out (by rfl) (by rfl) (by have := RL.out; rw [iz_length]; omega) (by have := RL.out; rw [iz_length]; omega) B2.out.size ?_; intro v5 w5 ho5 hk5 hb5 hv5; have O5 : Hid (OwnO w5 w1.heap.size 3 v5 (iz (rho ++ [y]))) := Lib.hid (by rw [iz_snoc]; exact ho5); have B5 : Hid (Below w1.heap.size w1 w5) := Lib.hid (B2.out.trans hb5); clear ho5 hk5 hb5 hv5)
              | fail)
            obtain ⟨a5, c5, rfl⟩ := ownO_hd O5.out
            have hpr5 : CPr b room k l w w5 (fun j => (Value.slice a5 (rho ++ [y]).length c5).ownBlock = some j) := I.out.c.turn (Chg.of_below B5.out) (fun j hj => .inr (OwnO.lt O5.out j hj).1) fun j hj => (OwnO.lt O5.out j hj).2
            have hsl5 : Sl (w5.alloc (.cells #[.int .u8 (x.toNat : Int)] 5)) (.slice (some ⟨w5.heap.size, 0, none⟩) 1 1) [x] := at_sl (at_new w5 _ _) rfl
            have hal5 : Below w5.heap.size w5 (w5.alloc (.cells #[.int .u8 (x.toNat : Int)] 5)) := (Below.refl _ _).alloc (Nat.le_refl _) _
            have hput := q_put (hpr5.below hal5) y [x] _ hsl5 (by simp) (by have := HKM.out; omega)
            have PUT := Lib.hid hput; have AL5 := Lib.hid hal5
            obtain ⟨n5, hn5⟩ : ∃ n5, n5 = (rho ++ [y]).length := ⟨_, rfl⟩
            have hput : Calls Try.prog 19 #[cq b, .int .i64 y, .slice (some ⟨w5.heap.size, 0, none⟩) 1 1] (w5.alloc (.cells #[.int .u8 (x.toNat : Int)] 5)) fun e w' => e = .returned (.tuple #[.int .i64 (-1), .int .i64 0]) ∧ PrEnd b room (k + 1) l2 w (w5.alloc (.cells #[.int .u8 (x.toNat : Int)] 5)) (fun j => (Value.slice a5 n5 c5).ownBlock = some j) w' := by
              have := PUT.out
              rw [PZ.out, P0.out, ← PL2.out, ← hn5] at this
              exact this
            have O5' : Hid (OwnO w5 w1.heap.size 3 (.slice a5 n5 c5) (iz (rho ++ [y]))) := Lib.hid (by rw [hn5]; exact O5.out)
            have N5 : Hid (n5 = l2.length) := Lib.hid (by rw [hn5, ← PO.out, osOf_len])
            clear PUT O5
            have PUT := Lib.hid hput
            clear hput hpr5 hsl5 hal5
            rw [← hn5]
            clear hn5
            go_wp2_with (first
              | (go_at_call 19; refine PUT.out.mono ?_; rintro e w6 ⟨rfl, hq⟩; have Q6 := Lib.hid hq; have M6 : Hid (CMine b room (k + 1) l2 w w6) := Lib.hid hq.c.mine; have U6 : Hid (OwnO w6 w.heap.size 3 (.slice a5 n5 c5) (iz (osOf l2))) := Lib.hid (by rw [PO.out]; exact ownO_base ((O5'.out.below AL5.out).keep fun g hg => hq.k g hg) B1.out.size); clear hq)
              | (go_at_call 22; refine (m_len M6.out).mono ?_; rintro e w7 ⟨rfl, hw7⟩; have hw8 := hw7.symm; clear hw7; subst hw8; rw [← N5.out])
              | fail)
            have hn5b : n5 ≤ 8 := by have := N5.out; have := PLN.out; omega
            go_loopw [99] (fun a99 wr => ∃ j : Nat, j ≤ n5 ∧ a99 = .int .i64 (j : Int) ∧ wr = w6) (fun i _ => n5 - (Go.RowKit.intOf i).toNat)
            case atStart => exact ⟨0, Nat.zero_le _, rfl, rfl⟩
            case round =>
              obtain ⟨j, hj, rfl, hwr⟩ := hrel
              have hwr2 := hwr.symm
              clear hwr
              subst hwr2
              by_cases hlj : j < n5
              · have hlj' : (j : Int) < (n5 : Int) := by omega
                obtain ⟨g7, o7, rfl, _, d7⟩ := sli_at (ownO_sli U6.out) (by rw [osOf_len, ← N5.out]) hlj
                obtain ⟨hw7, hs7⟩ := os_wf M6.out.ok (k := j) (by rw [← N5.out]; exact hlj)
                rw [pgOf_some] at hs7
                obtain ⟨u7, hu7⟩ : ∃ u7, u7 = (osOf l2).getD j 0 := ⟨_, rfl⟩
                rw [← hu7] at d7 hw7 hs7
                have hh7 := m_has M6.out u7 hw7
                rw [hs7] at hh7
                have HH7 := Lib.hid hh7
                clear hh7 hw7 hs7 hu7
                go_wp2_with (go_at_call 24; refine HH7.out.mono ?_; rintro e w8 ⟨rfl, hw8⟩; have hw9 := hw8.symm; clear hw8; subst hw9)
                go_roundw
                case rel => exact ⟨j + 1, by omega, by go_num, by first | trivial | rfl⟩
                case measure => simp [Go.RowKit.intOf]; omega
              · have hjm : j = n5 := by omega
                subst hjm
                go_wp2_with fail
                go_roundw
                case rel => exact ⟨k + 1, l2, by omega, by go_num, ⟨Q6.out.c, U6.out, PP.out, PLN.out⟩⟩
                case measure => simp [Go.RowKit.intOf]; omega
    · have hkm : k = m := by omega
      subst hkm
      have HB := Lib.hid hb1
      clear hI hb1 hn8
      go_wp2_with (go_at_call 8; refine (alive15_any _).mono ?_; rintro e w9 ⟨rfl, hb9⟩; have B9 := Lib.hid (HB.out.trans (hb9.mono HB.out.size)); clear hb9)
      go_ret
      exact ⟨rfl, B9.out⟩
end Sha
end Go.Proofs.Yteiffdccfmfdbaa
