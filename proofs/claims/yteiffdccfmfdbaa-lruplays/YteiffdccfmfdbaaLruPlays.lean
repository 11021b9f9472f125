/- Layer 15, LruPlays: after every step the program's cache answers as the document's, and stands as it stands. For every input (written by lruplays.py). -/
import Derived.Test.YteiffdccfmfdbaaLruDuo
import Derived.Test.YteiffdccfmfdbaaLruHoldM
import Derived.Test.YteiffdccfmfdbaaLruStep
import Derived.Test.YteiffdccfmfdbaaSame
import Derived.Deep.Cut
import Derived.Deep.CutBlock
import Derived.Deep.DeepCutAuto
namespace Go.Proofs.Yteiffdccfmfdbaa
namespace Sha
open Go.RowKit Mem Lru
theorem infoRC : (Try.prog.info? 30).map (·.size) = some 2 := by kernel_rfl
theorem rcC_one (room : Nat) : (rcC room (.slice none 0 0)).all (·.oneCell') = true := by simp [rcC, Value.oneCell']
theorem o_kne {P : Program} (k : IntKind) (q : Int) (t : TypeId) (x y : Operand) (w : World) : (do eqGuard .neq t x y (.int k q) (.int k q); binOp .neq t (.int k q) (.int k q) : Sem Value).run P w = .ok (.bool false) w := by go_simp
theorem o_keq {P : Program} (k : IntKind) (q : Int) (t : TypeId) (x y : Operand) (w : World) : (do eqGuard .eql t x y (.int k q) (.int k q); binOp .eql t (.int k q) (.int k q) : Sem Value).run P w = .ok (.bool true) w := by go_simp
set_option maxRecDepth 100000 in
set_option maxHeartbeats 8000000 in
theorem o_bne (m : Bool) (x y : Operand) (w : World) : (do eqGuard .neq 4 x y (.bool m) (.bool m); binOp .neq 4 (.bool m) (.bool m) : Sem Value).run Try.prog w = .ok (.bool false) w := by
  have h := run_equal_bool (P := Try.prog) w 4 m m Try.underlying4
  cases m <;> first | kernel_rfl | (simp [eqGuard, binOp, h])
set_option maxRecDepth 100000 in
set_option maxHeartbeats 8000000 in
theorem o_beq (m : Bool) (x y : Operand) (w : World) : (do eqGuard .eql 4 x y (.bool m) (.bool m); binOp .eql 4 (.bool m) (.bool m) : Sem Value).run Try.prog w = .ok (.bool true) w := by
  have h := run_equal_bool (P := Try.prog) w 4 m m Try.underlying4
  cases m <;> first | kernel_rfl | (simp [eqGuard, binOp, h])
/-- Where an item stands says whether it is held. -/
theorem o_find {n : Nat} {l : List Hd} (ok : Ok n l) (x : Int) (t : TypeId) (a b : Operand) (w : World) : (do eqGuard .geq t a b (.int .i64 (idx x l 0)) (.int .i64 0); binOp .geq t (.int .i64 (idx x l 0)) (.int .i64 0) : Sem Value).run Try.prog w = .ok (.bool (lkH l x).isSome) w := by
  cases hk : lkH l x with
  | none =>
    have hm : x ∉ items l := fun hm => by rw [← look_isSome, hk] at hm; cases hm
    rw [idx_none hm]
    go_simp
  | some g =>
    obtain ⟨k, _, h2, _, _⟩ := idx_at ok.nd 0 hk
    rw [h2, Nat.zero_add]
    have hb : (0 : Int) ≤ (k : Int) := by omega
    go_simp
/-- What is held, read one by one. -/
theorem RCa.read {F : Foot} {b : Nat} {w : World} {room : Nat} {l : List Hd} (h : RCa F b w room l) : ∃ a cap, w.cell? ⟨b, 1, none⟩ = some (.slice a l.length cap) ∧ ∀ i, i < l.length → ∃ bb oo pa m c, a = some ⟨bb, oo, none⟩ ∧ bb < w.heap.size ∧ w.rangeAt bb (oo + i * 3) (hvA (l.getD i default, .slice pa m c)).toList := by
  obtain ⟨v, z, e, hv⟩ := id h
  obtain ⟨_, a, cap, ev, _, _⟩ := id hv.sl
  have hc : w.cell? ⟨b, 1, none⟩ = some v := by rw [hv.row.cell]; rfl
  have hzl : z.length = l.length := by rw [← e]; simp
  refine ⟨a, cap, by rw [hc, ev, hzl], fun i hi => ?_⟩
  obtain ⟨n1, k1, bb, oo, pa, m, c, hat⟩ := RCa.at h hi rfl
  have h1 := hat.c1
  rw [hc, ev] at h1
  injection h1 with h1
  injection h1 with h2 _ _
  have hrg := hat.rg
  have h0 : w.cell? ⟨bb, oo + i * 3 + 0, none⟩ = some (.int .i64 (l.getD i default).item) := hrg 0 _ (by simp [hvA, hvC])
  exact ⟨bb, oo, pa, m, c, h2, block_lt_of_cell h0, hrg⟩
/-- Both begin with nothing held. -/
theorem duo_start {b room : Nat} {w wr : World} (h : CMine b room 0 [] w wr) : Duo b wr.heap.size room 0 [] [] w (wr.alloc (.cells (rcC room (.slice none 0 0)) 30)) (fun _ => False) := by
  refine ⟨fun k => k = wr.heap.size, h.pr.turn (Chg.of_below ((Below.refl _ _).alloc (Nat.le_refl _) _)) (fun k hk => ?_) (fun k hk => ?_), rca_new wr room, fun _ _ h => h⟩
  · rcases hk with hk | hk
    · exact .inr (by omega)
    · exact hk.elim
  · rcases hk with rfl | hk
    · simp
    · exact hk.elim
/-- The law's own blocks: the steps, and the box of the step. -/
def plE (vs : Value) (bx : Nat) : Foot := fun j => vs.ownBlock = some j ∨ j = bx
theorem pns_take {l : List Hd} {i : Nat} (hi : i < l.length) : (pns (l.take (i + 1))).length = (pns (l.take i)).length + (if (l.getD i default).pin then 1 else 0) := by
  rw [List.take_add_one, List.getElem?_eq_getElem hi]
  have e : l.getD i default = l[i] := by rw [List.getD_eq_getElem?_getD, List.getElem?_eq_getElem hi]; rfl
  rw [e]
  simp only [pns, List.filter_append, List.length_append, Option.toList_some]
  cases h : l[i].pin <;> simp [h]
set_option maxRecDepth 100000 in
set_option maxHeartbeats 4000000 in
theorem plays_core (z : Int) (li : List Step15) (vi : Value) (w : World) (hi : SlS15 w vi li) (hl : li.length ≤ 9223372036854775807) (hg : ∀ s ∈ li, wfI s.item) : Calls Try.prog 3 #[.int .i64 z, vi] w fun e w' => e = .returned (.bool true) ∧ Below w.heap.size w w' := by
  by_cases hz : 1 ≤ z ∧ z ≤ 1024
  · obtain ⟨room, rfl⟩ : ∃ room : Nat, z = (room : Int) := ⟨z.toNat, by omega⟩
    have hr1 : 1 ≤ room := by omega
    have hr2 : room ≤ 1024 := by omega
    obtain ⟨sh, hsh⟩ : ∃ sh, sh = shortS li := ⟨_, rfl⟩
    have hshl : sh.length ≤ 200 := by rw [hsh]; unfold shortS; rw [List.length_map, List.length_take]; omega
    have hshp : ∀ s ∈ sh, wfI s.item ∧ Sl w s.pv s.page ∧ s.page.length ≤ 50 := by
      intro s hs
      rw [hsh] at hs
      obtain ⟨s', hs', rfl⟩ := List.mem_map.1 hs
      have hm := List.mem_of_mem_take hs'
      refine ⟨hg s' hm, ?_, by unfold cutS; simp; omega⟩
      exact cut_sl (hi.2 s' hm)
    have hnew := m_new room w w hr1 (by omega) (Below.refl _ _)
    have NW := Lib.hid hnew; have SI := Lib.hid hi; have SHP := Lib.hid hshp; have SH := Lib.hid hsh
    have g1 : (room : Int) ≥ 1 := by omega
    have g2 : (room : Int) ≤ 1024 := by omega
    clear hnew hi hshp hsh hg hz
    go_enter Try.func3, Try.ntmps3
    go_wp2_with fail
    refine NW.out.mono ?_
    rintro e wn ⟨b, rfl, h1⟩
    have hd := duo_start h1
    obtain ⟨b2, hb2⟩ : ∃ b2, b2 = wn.heap.size := ⟨_, rfl⟩
    obtain ⟨wd, hwd⟩ : ∃ wd, wd = wn.alloc (.cells (rcC room (.slice none 0 0)) 30) := ⟨_, rfl⟩
    rw [← hb2, ← hwd] at hd
    have hshort := short15_any li vi wd (SI.out.below hd.base) hl
    rw [← SH.out] at hshort
    have D1 := Lib.hid hd; have SHO := Lib.hid hshort; have WD := Lib.hid hwd; have B2 := Lib.hid hb2
    clear NW h1 hd hshort hwd hb2
    go_wp2_with (first
      | (refine wpList_store_new (by rfl) 30 _ _ (by rfl) (by rfl) (rcC room (.slice none 0 0)) _ _ (by rfl) (by rfl) (by exact infoRC) (by rfl) (rcC_one room) ?_; rw [← WD.out, ← B2.out])
      | (go_at_call 9; refine SHO.out.mono ?_; rintro e w2 ⟨vs, rfl, hs2, ho2, hb2⟩; obtain ⟨va, vc, rfl⟩ : ∃ va vc, vs = .slice va sh.length vc := (by obtain ⟨⟨va, vc, e, _⟩, _⟩ := hs2; exact ⟨va, vc, e⟩); have S2 := Lib.hid hs2; have Bs := Lib.hid hb2; have OW2 := Lib.hid ho2; clear hs2 hb2 ho2)
      | fail)
    obtain ⟨n2, hn2⟩ : ∃ n2, n2 = sh.length := ⟨_, rfl⟩
    have hn2b : n2 ≤ 200 := by omega
    have hS2 : SlS15 w2 (.slice va n2 vc) sh := by rw [hn2]; exact S2.out
    have hI0 : Duo b b2 room 0 [] [] w w2 (fun j => (Value.slice va n2 vc).ownBlock = some j) := D1.out.more Bs.out (fun j hj => .inr (OW2.out j (by rw [← hn2]; exact hj)).1) fun j hj => (OW2.out j (by rw [← hn2]; exact hj)).2
    have I0 := Lib.hid hI0; have S3 := Lib.hid hS2
    rw [← hn2]
    clear hI0 hS2 SHO S2 Bs OW2 D1 WD B2 hn2
    go_wp2_with fail
    go_loopw [63] (fun a63 wr => ∃ (k : Nat) (l : List Hd), k ≤ n2 ∧ a63 = .int .i64 (k : Int) ∧ Duo b b2 room (2 * k) l l w wr (fun j => (Value.slice va n2 vc).ownBlock = some j) ∧ ∀ j, (Value.slice va n2 vc).ownBlock = some j → wr.heap[j]? = w2.heap[j]?) (fun i _ => n2 - (Go.RowKit.intOf i).toNat)
    case atStart => exact ⟨0, [], Nat.zero_le _, rfl, I0.out, fun j _ => rfl⟩
    case round =>
      clear I0
      obtain ⟨k, l, hk, rfl, hI, hSt⟩ := hrel
      generalize wr = w1 at hI hSt ⊢
      by_cases hlt : k < n2
      · have hlt' : (k : Int) < (n2 : Int) := by omega
        have hkl : k < sh.length := by obtain ⟨⟨_, _, e, _⟩, _⟩ := S3.out; injection e with _ e _; omega
        obtain ⟨bb, oo, rfl, hbb, hrg, hpg⟩ := slS15_at S3.out (i := k) hkl
        obtain ⟨s, hs⟩ : ∃ s, s = sh.getD k default := ⟨_, rfl⟩
        have hsm : s ∈ sh := by rw [hs, List.getD_eq_getElem?_getD, List.getElem?_eq_getElem hkl]; exact List.getElem_mem hkl
        obtain ⟨hwf, hsl, hpl⟩ := SHP.out s hsm
        rw [← hs] at hrg
        have hst := hSt bb rfl
        have hrg1 : w1.rangeAt bb (oo + k * 3) (stM s).toList := fun j u hu => by rw [World.cell?_of_block (w := w2) (w' := w1) (a := ⟨bb, oo + k * 3 + j, none⟩) hst]; exact hrg j u hu
        obtain ⟨c, hc⟩ : ∃ c, c = s.k.toNat := ⟨_, rfl⟩
        have hcl : c < 256 := by have := s.k.isLt; omega
        obtain ⟨it, hit⟩ : ∃ it, it = s.item := ⟨_, rfl⟩
        obtain ⟨pv, hpv⟩ : ∃ pv, pv = s.pv := ⟨_, rfl⟩
        obtain ⟨pg, hpg2⟩ : ∃ pg, pg = s.page := ⟨_, rfl⟩
        have hk0 : (stM s)[0]? = some (.int .u8 (c : Int)) := by rw [hc]; rfl
        have hk1 : (stM s)[1]? = some (.int .i64 it) := by rw [hit]; rfl
        have hk2 : (stM s)[2]? = some pv := by rw [hpv]; rfl
        have hone := stM_one s
        have hsz := stM_size s
        obtain ⟨M, hM⟩ : ∃ M, M = stM s := ⟨_, rfl⟩
        rw [← hM] at hrg1 hk0 hk1 hk2 hone hsz
        rw [← hit] at hwf
        rw [← hpv, ← hpg2] at hsl
        rw [← hpg2] at hpl
        have hpv2 : ∃ a c, pv = .slice a pg.length c := by obtain ⟨a, c, e, _⟩ := hsl; exact ⟨a, c, e⟩
        have hnw := at_new w1 M 34
        have hbl1 : bb < w1.heap.size := by obtain ⟨G, h1, _, _⟩ := hI; exact h1.lt bb (.inr rfl)
        obtain ⟨bx, hbx⟩ : ∃ bx, bx = w1.heap.size := ⟨_, rfl⟩
        obtain ⟨w3, hw3⟩ : ∃ w3, w3 = w1.alloc (.cells M 34) := ⟨_, rfl⟩
        have hal : Below w1.heap.size w1 w3 := by rw [hw3]; exact (Below.refl _ _).alloc (Nat.le_refl _) _
        have hsz3 : w3.heap.size = w1.heap.size + 1 := by rw [hw3]; simp
        have hD3 : Duo b b2 room (2 * k) l l w w3 (plE (.slice (some ⟨bb, oo, none⟩) n2 vc) bx) := hI.more hal (fun j hj => hj.elim .inl fun e => .inr (by omega)) fun j hj => by
          rcases hj with hj | hj
          · have e : bb = j := by injection hj
            omega
          · omega
        have hSt3 : ∀ j, (Value.slice (some ⟨bb, oo, none⟩) n2 vc).ownBlock = some j → w3.heap[j]? = w2.heap[j]? := fun j hj => by
          have e : bb = j := by injection hj
          exact (hal.block j (by omega)).trans (hSt j hj)
        rw [← hw3, ← hbx] at hnw
        have RG := Lib.hid hrg1; have ONE := Lib.hid hone; have SZ := Lib.hid hsz; have WX := Lib.hid hw3; have BX := Lib.hid hbx; have D3 := Lib.hid hD3; have ST3 := Lib.hid hSt3; have WF := Lib.hid hwf; have PL := Lib.hid hpl
        have k0 : w3.cell? ⟨bx, 0, none⟩ = some (.int .u8 (c : Int)) := by rw [hnw.cell]; exact hk0
        have k1 : w3.cell? ⟨bx, 1, none⟩ = some (.int .i64 it) := by rw [hnw.cell]; exact hk1
        have k2 : w3.cell? ⟨bx, 2, none⟩ = some pv := by rw [hnw.cell]; exact hk2
        obtain ⟨pa, pc, rfl⟩ := hpv2
        obtain ⟨np, hnp⟩ : ∃ np, np = pg.length := ⟨_, rfl⟩
        rw [← hnp] at k2
        have SLw : Hid (Sl w (.slice pa np pc) pg) := Lib.hid (by rw [hnp]; exact hsl)
        have KB : Hid (k < 200) := Lib.hid (by omega)
        have RB : Hid (room ≤ 1024) := Lib.hid hr2
        have OKL : Hid (Ok (2 * k) l) := Lib.hid hI.mine.ok
        clear hI hSt hrg hpg hsm hwf hsl hpl hst hrg1 hk0 hk1 hk2 hone hsz hnw hw3 hbx hM hs hit hpv hpg2 hc hkl hbb hbl1 hal hsz3 hD3 hSt3 hnp
        go_upto_block 2 with (first
          | (refine wpList_load_mid (by rfl) 34 _ (by rfl) bb (oo + k * 3) (by rfl) M.toList _ RG.out Try.underlying34 (by rfl) (by rw [infoSt, Array.length_toList, SZ.out]) ?_; rw [Array.toArray_toList])
          | (refine wpList_store_new (by rfl) 34 _ _ (by rfl) (by rfl) M _ 34 (by rfl) (by rfl) (by rw [infoSt, SZ.out]) (by rw [SZ.out]; rfl) ONE.out ?_; rw [← BX.out, ← WX.out])
          | fail)
        go_cut [11, 69] (fun y u wx => y = .bool true ∧ (∃ l', Duo b b2 room (2 * (k + 1)) l' l' w wx (plE (.slice (some ⟨bb, oo, none⟩) n2 vc) bx) ∧ ∀ j, (plE (.slice (some ⟨bb, oo, none⟩) n2 vc) bx) j → wx.heap[j]? = w3.heap[j]?) ∧ ∃ u2, u2 = u)
        case first =>
          by_cases g2 : c % 6 = 2
          · have g2' : (c : Int) % 6 = 2 := by omega
            as_aux_lemma =>
              have hg := d_get D3.out it WF.out (by have := KB.out; omega)
              obtain ⟨l1, hl1⟩ : ∃ l1, l1 = (getH l it).1 := ⟨_, rfl⟩
              obtain ⟨p, hp⟩ : ∃ p, p = (getH l it).2.getD [] := ⟨_, rfl⟩
              obtain ⟨q, hq⟩ : ∃ q, q = (getH l it).2.isSome := ⟨_, rfl⟩
              have hpl : p.length ≤ 1000000 := by
                rw [hp]
                unfold getH
                split
                · rename_i h e
                  exact OKL.out.pg h (look_some e).1
                · simp
              have hg : Calls Try.prog 10 #[cq b, .int .i64 it] w3 fun e w' => (∃ v, e = .returned (.tuple #[v, .bool q]) ∧ OwnB w' w3.heap.size v p) ∧ DuoEnd b b2 room (2 * k + 1) l1 l w w3 (plE (.slice (some ⟨bb, oo, none⟩) n2 vc) bx) w' := by rw [hl1, hp, hq]; exact hg
              have ht : ∀ w4, Duo b b2 room (2 * k + 1) l1 l w w4 (plE (.slice (some ⟨bb, oo, none⟩) n2 vc) bx) → Calls Try.prog 11 #[rq b2, .int .i64 it] w4 fun e w' => (∃ v, e = .returned (.tuple #[v, .bool q]) ∧ Sl w' v p) ∧ DocEnd b b2 room (2 * k + 1) l1 l1 w w4 (plE (.slice (some ⟨bb, oo, none⟩) n2 vc) bx) w' := fun w4 hd => by
                have := t_get hd OKL.out (by have := KB.out; omega) it
                rw [← hl1] at this
                rw [hp, hq]
                exact this
              obtain ⟨m, hm⟩ : ∃ m, m = p.length := ⟨_, rfl⟩
              have DG := Lib.hid hg; have TG := Lib.hid ht; have HPL := Lib.hid hpl; have HM := Lib.hid hm
              have BL3 := Lib.hid D3.out.b2lt
              clear hg ht hpl hm hp hq hl1
              cases q
              · go_wp2_with (first
                  | (go_at_call 10; refine DG.out.mono ?_; rintro e w4 ⟨⟨v4, rfl, ho4⟩, he⟩; obtain ⟨a4, c4, rfl⟩ := rows_hd ho4; have D4 := Lib.hid he.d; have K4 := Lib.hid he.k; have O4 := Lib.hid ho4; have Z4 := Lib.hid he.s; have k1' : w4.cell? ⟨bx, 1, none⟩ = some (.int .i64 it) := (World.cell?_of_block (a := ⟨bx, 1, none⟩) (he.k bx (.inr rfl))).trans k1; clear k0 k1 k2; rw [← HM.out]; clear he ho4)
                  | (go_at_call 11; refine (TG.out w4 D4.out).mono ?_; rintro e w5 ⟨⟨v5, rfl, hs5⟩, he, hch⟩; obtain ⟨a5, c5, rfl, _⟩ := id hs5; have D5 := Lib.hid he.d; have K5 : Hid (∀ j, (plE (.slice (some ⟨bb, oo, none⟩) n2 vc) bx) j → w5.heap[j]? = w3.heap[j]?) := Lib.hid (fun j hj => (he.k j hj).trans (K4.out j hj)); have S5 := Lib.hid hs5; have O5 : Hid (Sl w5 (.slice a4 p.length c4) p) := Lib.hid ((O4.out.keep fun g hg => hch.block g (O4.out.lt g hg).2 (fun e => by have h1 := (O4.out.lt g hg).1; have h2 := BL3.out; have e : g = b2 := e; omega)).sl); rw [← HM.out]; clear he hs5 hch k1')
                  | (go_at_call 12; refine (same_any p p (.slice a4 m c4) (.slice a5 m c5) w5 (by rw [HM.out]; exact O5.out) (by rw [HM.out]; exact S5.out) (by have := HPL.out; omega) (by have := HPL.out; omega)).mono ?_; rw [sameB_self]; rintro e w6 ⟨rfl, hb⟩; have D6 := Lib.hid (D5.out.below hb); have K6 : Hid (∀ j, (plE (.slice (some ⟨bb, oo, none⟩) n2 vc) bx) j → w6.heap[j]? = w3.heap[j]?) := Lib.hid (fun j hj => (hb.block j (by obtain ⟨G, h1, _, _⟩ := D5.out; exact h1.lt j (.inr hj))).trans (K5.out j hj)); clear hb)
                  | fail)
                go_meet
                exact ⟨rfl, ⟨l1, D6.out.mono (by omega), fun j hj => K6.out j hj⟩, _, rfl⟩
              · go_wp2_with (first
                  | (go_at_call 10; refine DG.out.mono ?_; rintro e w4 ⟨⟨v4, rfl, ho4⟩, he⟩; obtain ⟨a4, c4, rfl⟩ := rows_hd ho4; have D4 := Lib.hid he.d; have K4 := Lib.hid he.k; have O4 := Lib.hid ho4; have Z4 := Lib.hid he.s; have k1' : w4.cell? ⟨bx, 1, none⟩ = some (.int .i64 it) := (World.cell?_of_block (a := ⟨bx, 1, none⟩) (he.k bx (.inr rfl))).trans k1; clear k0 k1 k2; rw [← HM.out]; clear he ho4)
                  | (go_at_call 11; refine (TG.out w4 D4.out).mono ?_; rintro e w5 ⟨⟨v5, rfl, hs5⟩, he, hch⟩; obtain ⟨a5, c5, rfl, _⟩ := id hs5; have D5 := Lib.hid he.d; have K5 : Hid (∀ j, (plE (.slice (some ⟨bb, oo, none⟩) n2 vc) bx) j → w5.heap[j]? = w3.heap[j]?) := Lib.hid (fun j hj => (he.k j hj).trans (K4.out j hj)); have S5 := Lib.hid hs5; have O5 : Hid (Sl w5 (.slice a4 p.length c4) p) := Lib.hid ((O4.out.keep fun g hg => hch.block g (O4.out.lt g hg).2 (fun e => by have h1 := (O4.out.lt g hg).1; have h2 := BL3.out; have e : g = b2 := e; omega)).sl); rw [← HM.out]; clear he hs5 hch k1')
                  | (go_at_call 12; refine (same_any p p (.slice a4 m c4) (.slice a5 m c5) w5 (by rw [HM.out]; exact O5.out) (by rw [HM.out]; exact S5.out) (by have := HPL.out; omega) (by have := HPL.out; omega)).mono ?_; rw [sameB_self]; rintro e w6 ⟨rfl, hb⟩; have D6 := Lib.hid (D5.out.below hb); have K6 : Hid (∀ j, (plE (.slice (some ⟨bb, oo, none⟩) n2 vc) bx) j → w6.heap[j]? = w3.heap[j]?) := Lib.hid (fun j hj => (hb.block j (by obtain ⟨G, h1, _, _⟩ := D5.out; exact h1.lt j (.inr hj))).trans (K5.out j hj)); clear hb)
                  | fail)
                go_meet
                exact ⟨rfl, ⟨l1, D6.out.mono (by omega), fun j hj => K6.out j hj⟩, _, rfl⟩
          by_cases g3 : c % 6 = 3
          · have g3' : (c : Int) % 6 = 3 := by omega
            have g2' : ¬ (c : Int) % 6 = 2 := by omega
            as_aux_lemma =>
              have hw3b : Below w3.heap.size w3 w3.drew := (Below.refl _ _).drew
              have hg := d_pin (D3.out.below hw3b) it pg (.slice pa np pc) (SLw.out.below (D3.out.below hw3b).base) (by have := PL.out; omega) (by have := KB.out; omega)
              obtain ⟨l1, hl1⟩ : ∃ l1, l1 = (pinH l it pg).1 := ⟨_, rfl⟩
              obtain ⟨er, her⟩ : ∃ er, er = (pinH l it pg).2 := ⟨_, rfl⟩
              rw [← hl1, ← her] at hg
              have ht : ∀ w4, Duo b b2 room (2 * k + 2) l1 l w w4 (plE (.slice (some ⟨bb, oo, none⟩) n2 vc) bx) → Calls Try.prog 14 #[rq b2, .int .i64 it, .slice pa np pc] w4 fun e w' => e = .returned (.int .i64 er) ∧ DocEnd b b2 room (2 * k + 2) l1 l1 w w4 (plE (.slice (some ⟨bb, oo, none⟩) n2 vc) bx) w' := fun w4 hd => by
                have := t_pin hd OKL.out (by have := KB.out; omega) it pg (.slice pa np pc) (SLw.out.below hd.base) (by have := PL.out; omega)
                rw [← hl1, ← her] at this
                exact this
              have k1d : w3.drew.cell? ⟨bx, 1, none⟩ = some (.int .i64 it) := k1
              have k2d : w3.drew.cell? ⟨bx, 2, none⟩ = some (.slice pa np pc) := k2
              have DG := Lib.hid hg; have TG := Lib.hid ht; have X1 := Lib.hid k1d; have X2 := Lib.hid k2d
              clear hg ht hl1 her hw3b k0 k1 k2 k1d k2d
              go_wp2_with fail
              refine wp_region_plan_in (fun w' => w'.cell? ⟨bx, 1, none⟩ = some (.int .i64 it) ∧ w'.cell? ⟨bx, 2, none⟩ = some (.slice pa np pc)) (.take 0 (.take 1 (.take 2 (.take 3 (.take 4 (.take 6 (.take 7 (.take 8 (.take 9 (.sole 5 (.sole 10 (.take 11 (.take 12 .done))))))))))))) (by kernel_rfl) (by kernel_rfl) (by kernel_rfl) ⟨X1.out, X2.out⟩ ?_
              (first | (refine plan_move _ _ (by rfl) (by rfl) (.inl (by rfl)) Mem.ev_a ?_) | (refine plan_move _ _ (by rfl) (by rfl) (.inr (by rfl)) Mem.ev_a ?_) | (refine plan_pick_t _ _ _ _ (by rfl) (by rfl) (by rfl) Mem.ev_a Mem.ev_a ?_) | (refine plan_pick_f _ _ _ _ (by rfl) (by rfl) (by rfl) Mem.ev_a Mem.ev_a ?_))
              (simp only [Act.put, List.setIfInBounds_toArray, List.set_cons_zero, List.set_cons_succ])
              refine plan_field 34 _ 1 bx 0 ⟨bx, 1, none⟩ (by rfl) (by rfl) (by rfl) Mem.ev_a (fun wx => by go_simp) ?_
              (simp only [Act.put, List.setIfInBounds_toArray, List.set_cons_zero, List.set_cons_succ])
              refine plan_cell 3 _ _ (.int .i64 it) _ (by rfl) (by rfl) (by rfl) Mem.ev_a (fun w' hw' => hw'.1) Try.underlying3 (by rfl) ?_
              (simp only [Act.put, List.setIfInBounds_toArray, List.set_cons_zero, List.set_cons_succ])
              refine plan_field 34 _ 2 bx 0 ⟨bx, 2, none⟩ (by rfl) (by rfl) (by rfl) Mem.ev_a (fun wx => by go_simp) ?_
              (simp only [Act.put, List.setIfInBounds_toArray, List.set_cons_zero, List.set_cons_succ])
              refine plan_cell 32 _ _ (.slice pa np pc) _ (by rfl) (by rfl) (by rfl) Mem.ev_a (fun w' hw' => hw'.2) Try.underlying32 (by rfl) ?_
              (simp only [Act.put, List.setIfInBounds_toArray, List.set_cons_zero, List.set_cons_succ])
              refine plan_field 34 _ 1 bx 0 ⟨bx, 1, none⟩ (by rfl) (by rfl) (by rfl) Mem.ev_a (fun wx => by go_simp) ?_
              (simp only [Act.put, List.setIfInBounds_toArray, List.set_cons_zero, List.set_cons_succ])
              refine plan_cell 3 _ _ (.int .i64 it) _ (by rfl) (by rfl) (by rfl) Mem.ev_a (fun w' hw' => hw'.1) Try.underlying3 (by rfl) ?_
              (simp only [Act.put, List.setIfInBounds_toArray, List.set_cons_zero, List.set_cons_succ])
              refine plan_field 34 _ 2 bx 0 ⟨bx, 2, none⟩ (by rfl) (by rfl) (by rfl) Mem.ev_a (fun wx => by go_simp) ?_
              (simp only [Act.put, List.setIfInBounds_toArray, List.set_cons_zero, List.set_cons_succ])
              refine plan_cell 32 _ _ (.slice pa np pc) _ (by rfl) (by rfl) (by rfl) Mem.ev_a (fun w' hw' => hw'.2) Try.underlying32 (by rfl) ?_
              (simp only [Act.put, List.setIfInBounds_toArray, List.set_cons_zero, List.set_cons_succ])
              refine plan_call 13 _ _ _ (by kernel_rfl) (by rfl) (by rfl) (by rfl) (by first | exact Mem.ev_none _ | (simp only [List.map_toArray, List.map_cons, List.map_nil, Mem.ev_tmp, List.getD_cons_succ, List.getD_cons_zero] <;> rfl)) ?_
              refine DG.out.mono ?_
              rintro e w4 ⟨rfl, he⟩
              have Y1 : Hid (w4.cell? ⟨bx, 1, none⟩ = some (.int .i64 it)) := Lib.hid ((World.cell?_of_block (a := ⟨bx, 1, none⟩) (he.k bx (.inr rfl))).trans X1.out)
              have Y2 : Hid (w4.cell? ⟨bx, 2, none⟩ = some (.slice pa np pc)) := Lib.hid ((World.cell?_of_block (a := ⟨bx, 2, none⟩) (he.k bx (.inr rfl))).trans X2.out)
              have D4 := Lib.hid he.d; have K4 : Hid (∀ j, (plE (.slice (some ⟨bb, oo, none⟩) n2 vc) bx) j → w4.heap[j]? = w3.heap[j]?) := Lib.hid he.k
              clear he
              refine ⟨_, rfl, ⟨Y1.out, Y2.out⟩, ?_⟩
              (simp only [Act.put, List.setIfInBounds_toArray, List.set_cons_zero, List.set_cons_succ])
              refine plan_call 14 _ _ _ (by kernel_rfl) (by rfl) (by rfl) (by rfl) (by first | exact Mem.ev_none _ | (simp only [List.map_toArray, List.map_cons, List.map_nil, Mem.ev_tmp, List.getD_cons_succ, List.getD_cons_zero] <;> rfl)) ?_
              refine (TG.out w4 D4.out).mono ?_
              rintro e w5 ⟨rfl, he, _⟩
              have Z1 : Hid (w5.cell? ⟨bx, 1, none⟩ = some (.int .i64 it)) := Lib.hid ((World.cell?_of_block (a := ⟨bx, 1, none⟩) (he.k bx (.inr rfl))).trans Y1.out)
              have Z2 : Hid (w5.cell? ⟨bx, 2, none⟩ = some (.slice pa np pc)) := Lib.hid ((World.cell?_of_block (a := ⟨bx, 2, none⟩) (he.k bx (.inr rfl))).trans Y2.out)
              have D5 := Lib.hid he.d; have K5 : Hid (∀ j, (plE (.slice (some ⟨bb, oo, none⟩) n2 vc) bx) j → w5.heap[j]? = w3.heap[j]?) := Lib.hid (fun j hj => (he.k j hj).trans (K4.out j hj))
              clear he
              refine ⟨_, rfl, ⟨Z1.out, Z2.out⟩, ?_⟩
              (simp only [Act.put, List.setIfInBounds_toArray, List.set_cons_zero, List.set_cons_succ])
              refine plan_bin _ _ _ _ _ _ _ (.bool true) (by rfl) (by rfl) (by rfl) Mem.ev_a Mem.ev_a (fun wx => o_keq .i64 _ _ _ _ wx) ?_
              (simp only [Act.put, List.setIfInBounds_toArray, List.set_cons_zero, List.set_cons_succ])
              (first | (refine plan_move _ _ (by rfl) (by rfl) (.inl (by rfl)) Mem.ev_a ?_) | (refine plan_move _ _ (by rfl) (by rfl) (.inr (by rfl)) Mem.ev_a ?_) | (refine plan_pick_t _ _ _ _ (by rfl) (by rfl) (by rfl) Mem.ev_a Mem.ev_a ?_) | (refine plan_pick_f _ _ _ _ (by rfl) (by rfl) (by rfl) Mem.ev_a Mem.ev_a ?_))
              (simp only [Act.put, List.setIfInBounds_toArray, List.set_cons_zero, List.set_cons_succ])
              refine plan_nil ?_
              go_wp2_with fail
              go_meet
              exact ⟨rfl, ⟨l1, D5.out.mono (by omega), fun j hj => K5.out j hj⟩, _, rfl⟩
          by_cases g4 : c % 6 = 4
          · have g4' : (c : Int) % 6 = 4 := by omega
            have g2' : ¬ (c : Int) % 6 = 2 := by omega
            have g3' : ¬ (c : Int) % 6 = 3 := by omega
            as_aux_lemma =>
              have hg := d_unpin D3.out it WF.out (by have := KB.out; omega)
              obtain ⟨l1, hl1⟩ : ∃ l1, l1 = (unpH room l it).1 := ⟨_, rfl⟩
              obtain ⟨er, her⟩ : ∃ er, er = (unpH room l it).2.1 := ⟨_, rfl⟩
              obtain ⟨q, hq⟩ : ∃ q, q = (unpH room l it).2.2 := ⟨_, rfl⟩
              rw [← hl1, ← her, ← hq] at hg
              have ht : ∀ w4, Duo b b2 room (2 * k + 1) l1 l w w4 (plE (.slice (some ⟨bb, oo, none⟩) n2 vc) bx) → Calls Try.prog 16 #[rq b2, .int .i64 it] w4 fun e w' => e = .returned (.tuple #[.int .i64 er, .bool q]) ∧ DocEnd b b2 room (2 * k + 1) l1 l1 w w4 (plE (.slice (some ⟨bb, oo, none⟩) n2 vc) bx) w' := fun w4 hd => by
                have := t_unpin hd OKL.out (by have := KB.out; omega) (by have := RB.out; omega) it
                rw [← hl1, ← her, ← hq] at this
                exact this
              have DG := Lib.hid hg; have TG := Lib.hid ht
              clear hg ht hl1 her hq
              cases q
              · go_wp2_with (first
                  | (go_at_call 15; refine DG.out.mono ?_; rintro e w4 ⟨rfl, he⟩; have D4 := Lib.hid he.d; have K4 := Lib.hid he.k; have k1' : w4.cell? ⟨bx, 1, none⟩ = some (.int .i64 it) := (World.cell?_of_block (a := ⟨bx, 1, none⟩) (he.k bx (.inr rfl))).trans k1; clear k0 k1 k2; clear he)
                  | (go_at_call 16; refine (TG.out w4 D4.out).mono ?_; rintro e w5 ⟨rfl, he, _⟩; have D5 := Lib.hid he.d; have K5 : Hid (∀ j, (plE (.slice (some ⟨bb, oo, none⟩) n2 vc) bx) j → w5.heap[j]? = w3.heap[j]?) := Lib.hid (fun j hj => (he.k j hj).trans (K4.out j hj)); clear he k1')
                  | fail)
                go_meet
                exact ⟨rfl, ⟨l1, D5.out.mono (by omega), fun j hj => K5.out j hj⟩, _, rfl⟩
              · go_wp2_with (first
                  | (go_at_call 15; refine DG.out.mono ?_; rintro e w4 ⟨rfl, he⟩; have D4 := Lib.hid he.d; have K4 := Lib.hid he.k; have k1' : w4.cell? ⟨bx, 1, none⟩ = some (.int .i64 it) := (World.cell?_of_block (a := ⟨bx, 1, none⟩) (he.k bx (.inr rfl))).trans k1; clear k0 k1 k2; clear he)
                  | (go_at_call 16; refine (TG.out w4 D4.out).mono ?_; rintro e w5 ⟨rfl, he, _⟩; have D5 := Lib.hid he.d; have K5 : Hid (∀ j, (plE (.slice (some ⟨bb, oo, none⟩) n2 vc) bx) j → w5.heap[j]? = w3.heap[j]?) := Lib.hid (fun j hj => (he.k j hj).trans (K4.out j hj)); clear he k1')
                  | fail)
                go_meet
                exact ⟨rfl, ⟨l1, D5.out.mono (by omega), fun j hj => K5.out j hj⟩, _, rfl⟩
          by_cases g5 : c % 6 = 5
          · have g5' : (c : Int) % 6 = 5 := by omega
            have g2' : ¬ (c : Int) % 6 = 2 := by omega
            have g3' : ¬ (c : Int) % 6 = 3 := by omega
            have g4' : ¬ (c : Int) % 6 = 4 := by omega
            as_aux_lemma =>
              have hw3b : Below w3.heap.size w3 w3.drew := (Below.refl _ _).drew
              have hg := d_drop (D3.out.below hw3b) it WF.out
              obtain ⟨l1, hl1⟩ : ∃ l1, l1 = (drpH l it).1 := ⟨_, rfl⟩
              obtain ⟨q, hq⟩ : ∃ q, q = (drpH l it).2 := ⟨_, rfl⟩
              rw [← hl1, ← hq] at hg
              have ht : ∀ w4, Duo b b2 room (2 * k) l1 l w w4 (plE (.slice (some ⟨bb, oo, none⟩) n2 vc) bx) → Calls Try.prog 18 #[rq b2, .int .i64 it] w4 fun e w' => e = .returned (.bool q) ∧ DocEnd b b2 room (2 * k) l1 l1 w w4 (plE (.slice (some ⟨bb, oo, none⟩) n2 vc) bx) w' := fun w4 hd => by
                have := t_drop hd OKL.out (by have := KB.out; omega) it
                rw [← hl1, ← hq] at this
                exact this
              have k1d : w3.drew.cell? ⟨bx, 1, none⟩ = some (.int .i64 it) := k1
              have DG := Lib.hid hg; have TG := Lib.hid ht; have X1 := Lib.hid k1d
              clear hg ht hl1 hq hw3b k0 k1 k2 k1d
              go_wp2_with fail
              refine wp_region_plan_in (fun w' => w'.cell? ⟨bx, 1, none⟩ = some (.int .i64 it)) (.take 0 (.take 1 (.take 2 (.take 4 (.take 5 (.sole 3 (.sole 6 (.take 7 (.take 8 .done))))))))) (by kernel_rfl) (by kernel_rfl) (by kernel_rfl) X1.out ?_
              (first | (refine plan_move _ _ (by rfl) (by rfl) (.inl (by rfl)) Mem.ev_a ?_) | (refine plan_move _ _ (by rfl) (by rfl) (.inr (by rfl)) Mem.ev_a ?_) | (refine plan_pick_t _ _ _ _ (by rfl) (by rfl) (by rfl) Mem.ev_a Mem.ev_a ?_) | (refine plan_pick_f _ _ _ _ (by rfl) (by rfl) (by rfl) Mem.ev_a Mem.ev_a ?_))
              (simp only [Act.put, List.setIfInBounds_toArray, List.set_cons_zero, List.set_cons_succ])
              refine plan_field 34 _ 1 bx 0 ⟨bx, 1, none⟩ (by rfl) (by rfl) (by rfl) Mem.ev_a (fun wx => by go_simp) ?_
              (simp only [Act.put, List.setIfInBounds_toArray, List.set_cons_zero, List.set_cons_succ])
              refine plan_cell 3 _ _ (.int .i64 it) _ (by rfl) (by rfl) (by rfl) Mem.ev_a (fun w' hw' => hw') Try.underlying3 (by rfl) ?_
              (simp only [Act.put, List.setIfInBounds_toArray, List.set_cons_zero, List.set_cons_succ])
              refine plan_field 34 _ 1 bx 0 ⟨bx, 1, none⟩ (by rfl) (by rfl) (by rfl) Mem.ev_a (fun wx => by go_simp) ?_
              (simp only [Act.put, List.setIfInBounds_toArray, List.set_cons_zero, List.set_cons_succ])
              refine plan_cell 3 _ _ (.int .i64 it) _ (by rfl) (by rfl) (by rfl) Mem.ev_a (fun w' hw' => hw') Try.underlying3 (by rfl) ?_
              (simp only [Act.put, List.setIfInBounds_toArray, List.set_cons_zero, List.set_cons_succ])
              refine plan_call 17 _ _ _ (by kernel_rfl) (by rfl) (by rfl) (by rfl) (by first | exact Mem.ev_none _ | (simp only [List.map_toArray, List.map_cons, List.map_nil, Mem.ev_tmp, List.getD_cons_succ, List.getD_cons_zero] <;> rfl)) ?_
              refine DG.out.mono ?_
              rintro e w4 ⟨rfl, he⟩
              have Y1 : Hid (w4.cell? ⟨bx, 1, none⟩ = some (.int .i64 it)) := Lib.hid ((World.cell?_of_block (a := ⟨bx, 1, none⟩) (he.k bx (.inr rfl))).trans X1.out)
              have D4 := Lib.hid he.d; have K4 : Hid (∀ j, (plE (.slice (some ⟨bb, oo, none⟩) n2 vc) bx) j → w4.heap[j]? = w3.heap[j]?) := Lib.hid he.k
              clear he
              refine ⟨_, rfl, Y1.out, ?_⟩
              (simp only [Act.put, List.setIfInBounds_toArray, List.set_cons_zero, List.set_cons_succ])
              refine plan_call 18 _ _ _ (by kernel_rfl) (by rfl) (by rfl) (by rfl) (by first | exact Mem.ev_none _ | (simp only [List.map_toArray, List.map_cons, List.map_nil, Mem.ev_tmp, List.getD_cons_succ, List.getD_cons_zero] <;> rfl)) ?_
              refine (TG.out w4 D4.out).mono ?_
              rintro e w5 ⟨rfl, he, _⟩
              have Z1 : Hid (w5.cell? ⟨bx, 1, none⟩ = some (.int .i64 it)) := Lib.hid ((World.cell?_of_block (a := ⟨bx, 1, none⟩) (he.k bx (.inr rfl))).trans Y1.out)
              have D5 := Lib.hid he.d; have K5 : Hid (∀ j, (plE (.slice (some ⟨bb, oo, none⟩) n2 vc) bx) j → w5.heap[j]? = w3.heap[j]?) := Lib.hid (fun j hj => (he.k j hj).trans (K4.out j hj))
              clear he
              refine ⟨_, rfl, Z1.out, ?_⟩
              (simp only [Act.put, List.setIfInBounds_toArray, List.set_cons_zero, List.set_cons_succ])
              refine plan_bin _ _ _ _ _ _ _ (.bool true) (by rfl) (by rfl) (by rfl) Mem.ev_a Mem.ev_a (fun wx => o_beq q _ _ wx) ?_
              (simp only [Act.put, List.setIfInBounds_toArray, List.set_cons_zero, List.set_cons_succ])
              (first | (refine plan_move _ _ (by rfl) (by rfl) (.inl (by rfl)) Mem.ev_a ?_) | (refine plan_move _ _ (by rfl) (by rfl) (.inr (by rfl)) Mem.ev_a ?_) | (refine plan_pick_t _ _ _ _ (by rfl) (by rfl) (by rfl) Mem.ev_a Mem.ev_a ?_) | (refine plan_pick_f _ _ _ _ (by rfl) (by rfl) (by rfl) Mem.ev_a Mem.ev_a ?_))
              (simp only [Act.put, List.setIfInBounds_toArray, List.set_cons_zero, List.set_cons_succ])
              refine plan_nil ?_
              go_wp2_with fail
              go_meet
              exact ⟨rfl, ⟨l1, D5.out.mono (by omega), fun j hj => K5.out j hj⟩, _, rfl⟩
          have g2' : ¬ (c : Int) % 6 = 2 := by omega
          have g3' : ¬ (c : Int) % 6 = 3 := by omega
          have g4' : ¬ (c : Int) % 6 = 4 := by omega
          have g5' : ¬ (c : Int) % 6 = 5 := by omega
          as_aux_lemma =>
            have hg := d_put D3.out it pg (.slice pa np pc) (SLw.out.below D3.out.base) (by have := PL.out; omega) (by have := KB.out; omega)
            obtain ⟨l1, hl1⟩ : ∃ l1, l1 = (putH room l it pg).1 := ⟨_, rfl⟩
            obtain ⟨e1, he1⟩ : ∃ e1, e1 = (putH room l it pg).2.1 := ⟨_, rfl⟩
            obtain ⟨e2, he2⟩ : ∃ e2, e2 = (putH room l it pg).2.2 := ⟨_, rfl⟩
            rw [← hl1, ← he1, ← he2] at hg
            have ht : ∀ w4, Duo b b2 room (2 * k + 1) l1 l w w4 (plE (.slice (some ⟨bb, oo, none⟩) n2 vc) bx) → Calls Try.prog 20 #[rq b2, .int .i64 it, .slice pa np pc] w4 fun e w' => e = .returned (.tuple #[.int .i64 e1, .int .i64 e2]) ∧ DocEnd b b2 room (2 * k + 1) l1 l1 w w4 (plE (.slice (some ⟨bb, oo, none⟩) n2 vc) bx) w' := fun w4 hd => by
              have := t_put hd OKL.out (by have := KB.out; omega) (by have := RB.out; omega) it pg (.slice pa np pc) (SLw.out.below hd.base) (by have := PL.out; omega)
              rw [← hl1, ← he1, ← he2] at this
              exact this
            have DG := Lib.hid hg; have TG := Lib.hid ht
            clear hg ht hl1 he1 he2
            go_wp2_with (first
              | (go_at_call 19; refine DG.out.mono ?_; rintro e w4 ⟨rfl, he⟩; have D4 := Lib.hid he.d; have K4 := Lib.hid he.k; have k1' : w4.cell? ⟨bx, 1, none⟩ = some (.int .i64 it) := (World.cell?_of_block (a := ⟨bx, 1, none⟩) (he.k bx (.inr rfl))).trans k1; have k2' : w4.cell? ⟨bx, 2, none⟩ = some (.slice pa np pc) := (World.cell?_of_block (a := ⟨bx, 2, none⟩) (he.k bx (.inr rfl))).trans k2; clear k0 k1 k2; clear he)
              | (go_at_call 20; refine (TG.out w4 D4.out).mono ?_; rintro e w5 ⟨rfl, he, _⟩; have D5 := Lib.hid he.d; have K5 : Hid (∀ j, (plE (.slice (some ⟨bb, oo, none⟩) n2 vc) bx) j → w5.heap[j]? = w3.heap[j]?) := Lib.hid (fun j hj => (he.k j hj).trans (K4.out j hj)); clear he k1' k2')
              | fail)
            go_meet
            exact ⟨rfl, ⟨l1, D5.out.mono (by omega), fun j hj => K5.out j hj⟩, _, rfl⟩
        case rest =>
          as_aux_lemma =>
            obtain ⟨rfl, ⟨l', hD4, hK4⟩, uu, rfl⟩ := hcut
            have q1 : wc.cell? ⟨bx, 1, none⟩ = some (.int .i64 it) := (World.cell?_of_block (a := ⟨bx, 1, none⟩) (hK4 bx (.inr rfl))).trans k1
            have hST : ∀ j, (Value.slice (some ⟨bb, oo, none⟩) n2 vc).ownBlock = some j → wc.heap[j]? = w2.heap[j]? := fun j hj => (hK4 j (.inl hj)).trans (ST3.out j hj)
            have hbxl : bx < wc.heap.size := by obtain ⟨G, h1, _, _⟩ := hD4; exact h1.lt bx (.inr (.inr rfl))
            have hbbl : bb < wc.heap.size := by obtain ⟨G, h1, _, _⟩ := hD4; exact h1.lt bb (.inr (.inl rfl))
            have hok := hD4.mine.ok
            have hln := hok.len
            obtain ⟨nL, hnL⟩ : ∃ nL, nL = l'.length := ⟨_, rfl⟩
            have hnb : nL ≤ 400 := by have := KB.out; omega
            have hor := m_order hD4.mine (by have := KB.out; omega)
            have D4 := Lib.hid hD4; have Q1 := Lib.hid q1; have STc := Lib.hid hST; have BXL := Lib.hid hbxl; have BBL := Lib.hid hbbl; have OK4 := Lib.hid hok; have NL := Lib.hid hnL; have OR := Lib.hid hor
            clear k0 k1 k2 D3 OKL SLw PL RG ONE SZ WX BX ST3 hD4 hK4 q1 hST hbxl hbbl hok hln hnL hor
            go_wp2_with (go_at_call 21; refine OR.out.mono ?_; rintro e w6 ⟨v6, rfl, ho6, hb6⟩; obtain ⟨a6, c6, hv6⟩ := rows_hd ho6; rw [iz_length, items, List.length_map, ← NL.out] at hv6; subst hv6; have D6 := Lib.hid (D4.out.below (hb6.trans ((Below.refl _ _).drew.mono hb6.size))); have O6 := Lib.hid ((ownV_sli ho6).below (Below.refl _ _).drew); have B6 : Hid (Below wc.heap.size wc w6.drew) := Lib.hid (hb6.trans ((Below.refl _ _).drew.mono hb6.size)); clear ho6 hb6)
            obtain ⟨G6, hG6⟩ := D6.out.rc
            obtain ⟨az, cz, hz1, hzr⟩ := RCa.read hG6
            rw [← NL.out] at hz1 hzr
            have hq6 : w6.drew.cell? ⟨bx, 1, none⟩ = some (.int .i64 it) := (B6.out.cell (p := ⟨bx, 1, none⟩) BXL.out).trans Q1.out
            obtain ⟨q, hq⟩ : ∃ q, q = (lkH l' it).isSome := ⟨_, rfl⟩
            obtain ⟨ix, hix⟩ : ∃ ix, ix = idx it l' 0 := ⟨_, rfl⟩
            have hhas := m_has D6.out.mine it WF.out
            have hfind := t_find D6.out OK4.out (by have := KB.out; omega) it
            have hge : ∀ (t : TypeId) (x y : Operand) (wx : World), (do eqGuard .geq t x y (.int .i64 ix) (.int .i64 0); binOp .geq t (.int .i64 ix) (.int .i64 0) : Sem Value).run Try.prog wx = .ok (.bool q) wx := fun t x y wx => by rw [hq, hix]; exact o_find OK4.out it t x y wx
            have hlen := m_len D6.out.mine
            have hroom := m_room D6.out.mine
            rw [← hq] at hhas
            rw [← hix] at hfind
            rw [← NL.out] at hlen
            have HAS := Lib.hid hhas; have FIND := Lib.hid hfind; have GE := Lib.hid hge; have LEN := Lib.hid hlen; have ROOM := Lib.hid hroom; have Z1 := Lib.hid hz1; have ZR := Lib.hid hzr; have Q6 := Lib.hid hq6
            clear hhas hfind hge hlen hroom hz1 hzr hq6 hG6 hq hix OR
            go_wp2_with fail
            refine wp_region_plan_in (fun w' => w' = w6.drew) (.take 0 (.take 1 (.take 2 (.take 3 (.take 4 (.take 5 (.take 6 (.take 7 (.take 8 (.take 9 (.take 10 (.take 11 (.take 13 (.take 14 (.take 15 (.sole 12 (.take 16 (.take 17 (.take 18 (.take 19 (.take 21 (.sole 20 (.take 22 (.take 23 (.take 24 (.take 25 (.take 26 (.take 27 (.take 29 (.take 30 (.sole 28 (.sole 31 (.take 32 (.take 33 (.take 34 .done))))))))))))))))))))))))))))))))))) (by kernel_rfl) (by kernel_rfl) (by kernel_rfl) rfl ?_
            (first | (refine plan_move _ _ (by rfl) (by rfl) (.inl (by rfl)) Mem.ev_a ?_) | (refine plan_move _ _ (by rfl) (by rfl) (.inr (by rfl)) Mem.ev_a ?_) | (refine plan_pick_t _ _ _ _ (by rfl) (by rfl) (by rfl) Mem.ev_a Mem.ev_a ?_) | (refine plan_pick_f _ _ _ _ (by rfl) (by rfl) (by rfl) Mem.ev_a Mem.ev_a ?_))
            (simp only [Act.put, List.setIfInBounds_toArray, List.set_cons_zero, List.set_cons_succ])
            refine plan_not_t _ _ (by rfl) (by rfl) (by rfl) Mem.ev_a ?_
            (simp only [Act.put, List.setIfInBounds_toArray, List.set_cons_zero, List.set_cons_succ])
            (first | (refine plan_move _ _ (by rfl) (by rfl) (.inl (by rfl)) Mem.ev_a ?_) | (refine plan_move _ _ (by rfl) (by rfl) (.inr (by rfl)) Mem.ev_a ?_) | (refine plan_pick_t _ _ _ _ (by rfl) (by rfl) (by rfl) Mem.ev_a Mem.ev_a ?_) | (refine plan_pick_f _ _ _ _ (by rfl) (by rfl) (by rfl) Mem.ev_a Mem.ev_a ?_))
            (simp only [Act.put, List.setIfInBounds_toArray, List.set_cons_zero, List.set_cons_succ])
            (first | (refine plan_move _ _ (by rfl) (by rfl) (.inl (by rfl)) Mem.ev_a ?_) | (refine plan_move _ _ (by rfl) (by rfl) (.inr (by rfl)) Mem.ev_a ?_) | (refine plan_pick_t _ _ _ _ (by rfl) (by rfl) (by rfl) Mem.ev_a Mem.ev_a ?_) | (refine plan_pick_f _ _ _ _ (by rfl) (by rfl) (by rfl) Mem.ev_a Mem.ev_a ?_))
            (simp only [Act.put, List.setIfInBounds_toArray, List.set_cons_zero, List.set_cons_succ])
            refine plan_len _ _ _ _ nL _ (by rfl) (by rfl) (by rfl) (by rfl) Mem.ev_a (fun wx => by go_simp) ?_
            (simp only [Act.put, List.setIfInBounds_toArray, List.set_cons_zero, List.set_cons_succ])
            refine plan_field 30 _ 1 b2 0 ⟨b2, 1, none⟩ (by rfl) (by rfl) (by rfl) Mem.ev_a (fun wx => by go_simp) ?_
            (simp only [Act.put, List.setIfInBounds_toArray, List.set_cons_zero, List.set_cons_succ])
            refine plan_cell 28 _ _ (.slice az nL cz) _ (by rfl) (by rfl) (by rfl) Mem.ev_a (fun w' hw' => by rw [hw']; exact Z1.out) Try.underlying28 (by rfl) ?_
            (simp only [Act.put, List.setIfInBounds_toArray, List.set_cons_zero, List.set_cons_succ])
            refine plan_len _ _ _ _ nL _ (by rfl) (by rfl) (by rfl) (by rfl) Mem.ev_a (fun wx => by go_simp) ?_
            (simp only [Act.put, List.setIfInBounds_toArray, List.set_cons_zero, List.set_cons_succ])
            refine plan_bin _ _ _ _ _ _ _ (.bool false) (by rfl) (by rfl) (by rfl) Mem.ev_a Mem.ev_a (fun wx => o_kne .i64 _ _ _ _ wx) ?_
            (simp only [Act.put, List.setIfInBounds_toArray, List.set_cons_zero, List.set_cons_succ])
            refine plan_pick_f _ _ _ _ (by rfl) (by rfl) (by rfl) Mem.ev_a Mem.ev_a ?_
            (simp only [Act.put, List.setIfInBounds_toArray, List.set_cons_zero, List.set_cons_succ])
            (first | (refine plan_move _ _ (by rfl) (by rfl) (.inl (by rfl)) Mem.ev_a ?_) | (refine plan_move _ _ (by rfl) (by rfl) (.inr (by rfl)) Mem.ev_a ?_) | (refine plan_pick_t _ _ _ _ (by rfl) (by rfl) (by rfl) Mem.ev_a Mem.ev_a ?_) | (refine plan_pick_f _ _ _ _ (by rfl) (by rfl) (by rfl) Mem.ev_a Mem.ev_a ?_))
            (simp only [Act.put, List.setIfInBounds_toArray, List.set_cons_zero, List.set_cons_succ])
            (first | (refine plan_move _ _ (by rfl) (by rfl) (.inl (by rfl)) Mem.ev_a ?_) | (refine plan_move _ _ (by rfl) (by rfl) (.inr (by rfl)) Mem.ev_a ?_) | (refine plan_pick_t _ _ _ _ (by rfl) (by rfl) (by rfl) Mem.ev_a Mem.ev_a ?_) | (refine plan_pick_f _ _ _ _ (by rfl) (by rfl) (by rfl) Mem.ev_a Mem.ev_a ?_))
            (simp only [Act.put, List.setIfInBounds_toArray, List.set_cons_zero, List.set_cons_succ])
            refine plan_field 30 _ 1 b2 0 ⟨b2, 1, none⟩ (by rfl) (by rfl) (by rfl) Mem.ev_a (fun wx => by go_simp) ?_
            (simp only [Act.put, List.setIfInBounds_toArray, List.set_cons_zero, List.set_cons_succ])
            refine plan_cell 28 _ _ (.slice az nL cz) _ (by rfl) (by rfl) (by rfl) Mem.ev_a (fun w' hw' => by rw [hw']; exact Z1.out) Try.underlying28 (by rfl) ?_
            (simp only [Act.put, List.setIfInBounds_toArray, List.set_cons_zero, List.set_cons_succ])
            refine plan_len _ _ _ _ nL _ (by rfl) (by rfl) (by rfl) (by rfl) Mem.ev_a (fun wx => by go_simp) ?_
            (simp only [Act.put, List.setIfInBounds_toArray, List.set_cons_zero, List.set_cons_succ])
            refine plan_call 22 _ _ _ (by kernel_rfl) (by rfl) (by rfl) (by rfl) (by first | exact Mem.ev_none _ | (simp only [List.map_toArray, List.map_cons, List.map_nil, Mem.ev_tmp, List.getD_cons_succ, List.getD_cons_zero] <;> rfl)) ?_
            refine LEN.out.mono ?_
            rintro e w7 ⟨rfl, hw7⟩
            have hw8 := hw7.symm
            clear hw7
            subst hw8
            refine ⟨_, rfl, rfl, ?_⟩
            (simp only [Act.put, List.setIfInBounds_toArray, List.set_cons_zero, List.set_cons_succ])
            refine plan_bin _ _ _ _ _ _ _ (.bool false) (by rfl) (by rfl) (by rfl) Mem.ev_a Mem.ev_a (fun wx => o_kne .i64 _ _ _ _ wx) ?_
            (simp only [Act.put, List.setIfInBounds_toArray, List.set_cons_zero, List.set_cons_succ])
            refine plan_pick_f _ _ _ _ (by rfl) (by rfl) (by rfl) Mem.ev_a Mem.ev_a ?_
            (simp only [Act.put, List.setIfInBounds_toArray, List.set_cons_zero, List.set_cons_succ])
            (first | (refine plan_move _ _ (by rfl) (by rfl) (.inl (by rfl)) Mem.ev_a ?_) | (refine plan_move _ _ (by rfl) (by rfl) (.inr (by rfl)) Mem.ev_a ?_) | (refine plan_pick_t _ _ _ _ (by rfl) (by rfl) (by rfl) Mem.ev_a Mem.ev_a ?_) | (refine plan_pick_f _ _ _ _ (by rfl) (by rfl) (by rfl) Mem.ev_a Mem.ev_a ?_))
            (simp only [Act.put, List.setIfInBounds_toArray, List.set_cons_zero, List.set_cons_succ])
            (first | (refine plan_move _ _ (by rfl) (by rfl) (.inl (by rfl)) Mem.ev_a ?_) | (refine plan_move _ _ (by rfl) (by rfl) (.inr (by rfl)) Mem.ev_a ?_) | (refine plan_pick_t _ _ _ _ (by rfl) (by rfl) (by rfl) Mem.ev_a Mem.ev_a ?_) | (refine plan_pick_f _ _ _ _ (by rfl) (by rfl) (by rfl) Mem.ev_a Mem.ev_a ?_))
            (simp only [Act.put, List.setIfInBounds_toArray, List.set_cons_zero, List.set_cons_succ])
            (first | (refine plan_move _ _ (by rfl) (by rfl) (.inl (by rfl)) Mem.ev_a ?_) | (refine plan_move _ _ (by rfl) (by rfl) (.inr (by rfl)) Mem.ev_a ?_) | (refine plan_pick_t _ _ _ _ (by rfl) (by rfl) (by rfl) Mem.ev_a Mem.ev_a ?_) | (refine plan_pick_f _ _ _ _ (by rfl) (by rfl) (by rfl) Mem.ev_a Mem.ev_a ?_))
            (simp only [Act.put, List.setIfInBounds_toArray, List.set_cons_zero, List.set_cons_succ])
            refine plan_call 23 _ _ _ (by kernel_rfl) (by rfl) (by rfl) (by rfl) (by first | exact Mem.ev_none _ | (simp only [List.map_toArray, List.map_cons, List.map_nil, Mem.ev_tmp, List.getD_cons_succ, List.getD_cons_zero] <;> rfl)) ?_
            refine ROOM.out.mono ?_
            rintro e w7 ⟨rfl, hw7⟩
            have hw8 := hw7.symm
            clear hw7
            subst hw8
            refine ⟨_, rfl, rfl, ?_⟩
            (simp only [Act.put, List.setIfInBounds_toArray, List.set_cons_zero, List.set_cons_succ])
            refine plan_bin _ _ _ _ _ _ _ (.bool false) (by rfl) (by rfl) (by rfl) Mem.ev_a Mem.ev_a (fun wx => o_kne .i64 _ _ _ _ wx) ?_
            (simp only [Act.put, List.setIfInBounds_toArray, List.set_cons_zero, List.set_cons_succ])
            refine plan_pick_f _ _ _ _ (by rfl) (by rfl) (by rfl) Mem.ev_a Mem.ev_a ?_
            (simp only [Act.put, List.setIfInBounds_toArray, List.set_cons_zero, List.set_cons_succ])
            (first | (refine plan_move _ _ (by rfl) (by rfl) (.inl (by rfl)) Mem.ev_a ?_) | (refine plan_move _ _ (by rfl) (by rfl) (.inr (by rfl)) Mem.ev_a ?_) | (refine plan_pick_t _ _ _ _ (by rfl) (by rfl) (by rfl) Mem.ev_a Mem.ev_a ?_) | (refine plan_pick_f _ _ _ _ (by rfl) (by rfl) (by rfl) Mem.ev_a Mem.ev_a ?_))
            (simp only [Act.put, List.setIfInBounds_toArray, List.set_cons_zero, List.set_cons_succ])
            (first | (refine plan_move _ _ (by rfl) (by rfl) (.inl (by rfl)) Mem.ev_a ?_) | (refine plan_move _ _ (by rfl) (by rfl) (.inr (by rfl)) Mem.ev_a ?_) | (refine plan_pick_t _ _ _ _ (by rfl) (by rfl) (by rfl) Mem.ev_a Mem.ev_a ?_) | (refine plan_pick_f _ _ _ _ (by rfl) (by rfl) (by rfl) Mem.ev_a Mem.ev_a ?_))
            (simp only [Act.put, List.setIfInBounds_toArray, List.set_cons_zero, List.set_cons_succ])
            refine plan_field 34 _ 1 bx 0 ⟨bx, 1, none⟩ (by rfl) (by rfl) (by rfl) Mem.ev_a (fun wx => by go_simp) ?_
            (simp only [Act.put, List.setIfInBounds_toArray, List.set_cons_zero, List.set_cons_succ])
            refine plan_cell 3 _ _ (.int .i64 it) _ (by rfl) (by rfl) (by rfl) Mem.ev_a (fun w' hw' => by rw [hw']; exact Q6.out) Try.underlying3 (by rfl) ?_
            (simp only [Act.put, List.setIfInBounds_toArray, List.set_cons_zero, List.set_cons_succ])
            refine plan_field 34 _ 1 bx 0 ⟨bx, 1, none⟩ (by rfl) (by rfl) (by rfl) Mem.ev_a (fun wx => by go_simp) ?_
            (simp only [Act.put, List.setIfInBounds_toArray, List.set_cons_zero, List.set_cons_succ])
            refine plan_cell 3 _ _ (.int .i64 it) _ (by rfl) (by rfl) (by rfl) Mem.ev_a (fun w' hw' => by rw [hw']; exact Q6.out) Try.underlying3 (by rfl) ?_
            (simp only [Act.put, List.setIfInBounds_toArray, List.set_cons_zero, List.set_cons_succ])
            refine plan_call 24 _ _ _ (by kernel_rfl) (by rfl) (by rfl) (by rfl) (by first | exact Mem.ev_none _ | (simp only [List.map_toArray, List.map_cons, List.map_nil, Mem.ev_tmp, List.getD_cons_succ, List.getD_cons_zero] <;> rfl)) ?_
            refine HAS.out.mono ?_
            rintro e w7 ⟨rfl, hw7⟩
            have hw8 := hw7.symm
            clear hw7
            subst hw8
            refine ⟨_, rfl, rfl, ?_⟩
            (simp only [Act.put, List.setIfInBounds_toArray, List.set_cons_zero, List.set_cons_succ])
            refine plan_call 25 _ _ _ (by kernel_rfl) (by rfl) (by rfl) (by rfl) (by first | exact Mem.ev_none _ | (simp only [List.map_toArray, List.map_cons, List.map_nil, Mem.ev_tmp, List.getD_cons_succ, List.getD_cons_zero] <;> rfl)) ?_
            refine FIND.out.mono ?_
            rintro e w7 ⟨rfl, hw7⟩
            have hw8 := hw7.symm
            clear hw7
            subst hw8
            refine ⟨_, rfl, rfl, ?_⟩
            (simp only [Act.put, List.setIfInBounds_toArray, List.set_cons_zero, List.set_cons_succ])
            refine plan_bin _ _ _ _ _ _ _ (.bool q) (by rfl) (by rfl) (by rfl) Mem.ev_a (by rfl) (fun wx => GE.out _ _ _ wx) ?_
            (simp only [Act.put, List.setIfInBounds_toArray, List.set_cons_zero, List.set_cons_succ])
            refine plan_bin _ _ _ _ _ _ _ (.bool false) (by rfl) (by rfl) (by rfl) Mem.ev_a Mem.ev_a (fun wx => o_bne q _ _ wx) ?_
            (simp only [Act.put, List.setIfInBounds_toArray, List.set_cons_zero, List.set_cons_succ])
            refine plan_pick_f _ _ _ _ (by rfl) (by rfl) (by rfl) Mem.ev_a Mem.ev_a ?_
            (simp only [Act.put, List.setIfInBounds_toArray, List.set_cons_zero, List.set_cons_succ])
            refine plan_nil ?_
            obtain ⟨w7, hw7⟩ : ∃ w7, w7 = w6.drew := ⟨_, rfl⟩
            rw [← hw7] at D6 O6 B6 Z1 ZR ⊢
            clear hw7 HAS FIND GE LEN ROOM Q6
            have z1 : w7.cell? ⟨b2, 1, none⟩ = some (.slice az nL cz) := Z1.out
            have DL : Hid (b2 < w7.heap.size) := Lib.hid D6.out.b2lt
            go_wp2_with fail
            go_loopw [25, 205] (fun a25 a205 wr => ∃ i : Nat, i ≤ nL ∧ a205 = .int .i64 (i : Int) ∧ a25 = .int .i64 ((pns (l'.take i)).length : Int) ∧ Below w7.heap.size w7 wr) (fun _ i _ => nL - (Go.RowKit.intOf i).toNat)
            case atStart => exact ⟨0, Nat.zero_le _, rfl, by simp [pns], Below.refl _ _⟩
            case round =>
              obtain ⟨i, hi, rfl, rfl, hb⟩ := hrel
              generalize wr = w8 at hb ⊢
              by_cases hil : i < nL
              · have hil' : (i : Int) < (nL : Int) := by omega
                obtain ⟨zb, zo, pa2, m2, c2, rfl, hzb, hrg⟩ := ZR.out i hil
                have htk := pns_take (l := l') (i := i) (by rw [← NL.out]; exact hil)
                have hpi : (pns (l'.take i)).length ≤ i := by
                  have h1 : (pns (l'.take i)).length ≤ (l'.take i).length := by unfold pns; exact List.length_filter_le _ _
                  rw [List.length_take] at h1
                  omega
                obtain ⟨gb, go, rfl, hgb, d6⟩ := sli_at O6.out (by rw [items, List.length_map, ← NL.out]) hil
                obtain ⟨g, hg⟩ : ∃ g, g = l'.getD i default := ⟨_, rfl⟩
                have hgi : (items l').getD i 0 = g.item := by rw [hg]; unfold items; rw [List.getD_eq_getElem?_getD, List.getElem?_map, List.getD_eq_getElem?_getD, List.getElem?_eq_getElem (by rw [← NL.out]; exact hil)]; rfl
                rw [hgi] at d6
                rw [← hg] at hrg htk
                obtain ⟨gi, hgi2⟩ : ∃ gi, gi = g.item := ⟨_, rfl⟩
                obtain ⟨gp, hgp⟩ : ∃ gp, gp = g.pin := ⟨_, rfl⟩
                have hm0 : (hvA (g, .slice pa2 m2 c2))[0]? = some (.int .i64 gi) := by rw [hgi2]; simp [hvA, hvC]
                have hm2 : (hvA (g, .slice pa2 m2 c2))[2]? = some (.bool gp) := by rw [hgp]; simp [hvA, hvC]
                have hone := hvA_one g pa2 m2 c2
                have hsz : (hvA (g, .slice pa2 m2 c2)).size = 3 := by simp [hvA, hvC]
                obtain ⟨M, hM⟩ : ∃ M, M = hvA (g, .slice pa2 m2 c2) := ⟨_, rfl⟩
                rw [← hM] at hm0 hm2 hone hsz hrg
                rw [← hgi2] at d6
                rw [← hgp] at htk
                obtain ⟨pn, hpn⟩ : ∃ pn, pn = (pns (l'.take i)).length := ⟨_, rfl⟩
                rw [← hpn] at htk hpi ⊢
                have hnw := at_new w8 M 52
                obtain ⟨by2, hby⟩ : ∃ by2, by2 = w8.heap.size := ⟨_, rfl⟩
                obtain ⟨w9, hw9⟩ : ∃ w9, w9 = w8.alloc (.cells M 52) := ⟨_, rfl⟩
                have hal : Below w8.heap.size w8 w9 := by rw [hw9]; exact (Below.refl _ _).alloc (Nat.le_refl _) _
                rw [← hw9, ← hby] at hnw
                have RG := Lib.hid (range_below hrg hb hzb); have ONE := Lib.hid hone; have SZ := Lib.hid hsz; have WX := Lib.hid hw9; have BX := Lib.hid hby; have TK := Lib.hid htk
                have B9 : Hid (Below w7.heap.size w7 w9) := Lib.hid (hb.trans (hal.mono hb.size))
                have C0 : Hid (w9.drew.cell? ⟨by2, 0, none⟩ = some (.int .i64 gi)) := Lib.hid (by have : w9.cell? ⟨by2, 0, none⟩ = some (.int .i64 gi) := (by rw [hnw.cell]; exact hm0); exact this)
                have C2 : Hid (w9.drew.cell? ⟨by2, 2, none⟩ = some (.bool gp)) := Lib.hid (by have : w9.cell? ⟨by2, 2, none⟩ = some (.bool gp) := (by rw [hnw.cell]; exact hm2); exact this)
                have E6 : Hid (w9.drew.cell? ⟨gb, go + i, none⟩ = some (.int .i64 gi)) := Lib.hid (by have : w9.cell? ⟨gb, go + i, none⟩ = some (.int .i64 gi) := (B9.out.cell (p := ⟨gb, go + i, none⟩) hgb).trans d6; exact this)
                clear hrg hm0 hm2 hone hsz hnw hby hw9 hal hb hM hg hgi hgi2 hgp hgb hzb htk hpn d6
                go_wp2_with (first
                  | (refine wpList_load_mid (by rfl) 52 _ (by rfl) zb (zo + i * 3) (by rfl) M.toList _ RG.out Try.underlying52 (by rfl) (by rw [infoHd, Array.length_toList, SZ.out]) ?_; rw [Array.toArray_toList])
                  | (refine wpList_store_new (by rfl) 52 _ _ (by rfl) (by rfl) M _ 52 (by rfl) (by rfl) (by rw [infoHd, SZ.out]) (by rw [SZ.out]; rfl) ONE.out ?_; rw [← BX.out, ← WX.out])
                  | fail)
                refine wp_region_plan_in (fun w' => w' = w9.drew) (.take 0 (.take 1 (.take 2 (.take 3 (.take 4 (.take 5 (.take 6 .done))))))) (by kernel_rfl) (by kernel_rfl) (by kernel_rfl) rfl ?_
                (first | (refine plan_move _ _ (by rfl) (by rfl) (.inl (by rfl)) Mem.ev_a ?_) | (refine plan_move _ _ (by rfl) (by rfl) (.inr (by rfl)) Mem.ev_a ?_) | (refine plan_pick_t _ _ _ _ (by rfl) (by rfl) (by rfl) Mem.ev_a Mem.ev_a ?_) | (refine plan_pick_f _ _ _ _ (by rfl) (by rfl) (by rfl) Mem.ev_a Mem.ev_a ?_))
                (simp only [Act.put, List.setIfInBounds_toArray, List.set_cons_zero, List.set_cons_succ])
                (first | (refine plan_move _ _ (by rfl) (by rfl) (.inl (by rfl)) Mem.ev_a ?_) | (refine plan_move _ _ (by rfl) (by rfl) (.inr (by rfl)) Mem.ev_a ?_) | (refine plan_pick_t _ _ _ _ (by rfl) (by rfl) (by rfl) Mem.ev_a Mem.ev_a ?_) | (refine plan_pick_f _ _ _ _ (by rfl) (by rfl) (by rfl) Mem.ev_a Mem.ev_a ?_))
                (simp only [Act.put, List.setIfInBounds_toArray, List.set_cons_zero, List.set_cons_succ])
                refine plan_index 47 3 _ _ gb go nL c6 i (by rfl) (by rfl) (by rfl) Mem.ev_a Mem.ev_a hil Try.underlying47 (by kernel_rfl) ?_
                (simp only [Act.put, List.setIfInBounds_toArray, List.set_cons_zero, List.set_cons_succ])
                refine plan_cell 3 _ _ (.int .i64 gi) _ (by rfl) (by rfl) (by rfl) Mem.ev_a (fun w' hw' => by rw [hw']; exact E6.out) Try.underlying3 (by rfl) ?_
                (simp only [Act.put, List.setIfInBounds_toArray, List.set_cons_zero, List.set_cons_succ])
                refine plan_field 52 _ 0 by2 0 ⟨by2, 0, none⟩ (by rfl) (by rfl) (by rfl) Mem.ev_a (fun wx => by go_simp) ?_
                (simp only [Act.put, List.setIfInBounds_toArray, List.set_cons_zero, List.set_cons_succ])
                refine plan_cell 3 _ _ (.int .i64 gi) _ (by rfl) (by rfl) (by rfl) Mem.ev_a (fun w' hw' => by rw [hw']; exact C0.out) Try.underlying3 (by rfl) ?_
                (simp only [Act.put, List.setIfInBounds_toArray, List.set_cons_zero, List.set_cons_succ])
                refine plan_bin _ _ _ _ _ _ _ (.bool false) (by rfl) (by rfl) (by rfl) Mem.ev_a Mem.ev_a (fun wx => o_kne .i64 _ _ _ _ wx) ?_
                (simp only [Act.put, List.setIfInBounds_toArray, List.set_cons_zero, List.set_cons_succ])
                refine plan_nil ?_
                have B10 : Hid (Below w7.heap.size w7 w9.drew) := Lib.hid B9.out.drew
                obtain ⟨w10, hw10⟩ : ∃ w10, w10 = w9.drew := ⟨_, rfl⟩
                rw [← hw10] at B10 C2 ⊢
                clear hw10 C0 E6 B9
                have c2f : w10.cell? ⟨by2, 2, none⟩ = some (.bool gp) := C2.out
                cases gp with
                | true =>
                  go_wp2_with fail
                  go_roundw
                  case rel => exact ⟨i + 1, by omega, by go_num, by rw [TK.out]; go_num, B10.out⟩
                  case measure => simp [Go.RowKit.intOf]; omega
                | false =>
                  go_wp2_with fail
                  go_roundw
                  case rel => exact ⟨i + 1, by omega, by go_num, by rw [TK.out]; simp, B10.out⟩
                  case measure => simp [Go.RowKit.intOf]; omega
              · have him : i = nL := by omega
                subst him
                have htk : l'.take i = l' := by rw [NL.out]; simp
                rw [htk]
                have D8 := Lib.hid (D6.out.below hb)
                have hpd := m_pinned D8.out.mine (by have := KB.out; omega)
                have hpl2 : (sortI (items (pns l'))).length = (pns l').length := by rw [sortI_len]; simp [items]
                obtain ⟨nS, hnS⟩ : ∃ nS, nS = (pns l').length := ⟨_, rfl⟩
                rw [← hnS] at hpl2 ⊢
                have PD := Lib.hid hpd; have PL2 := Lib.hid hpl2; have B8 := Lib.hid hb
                clear hpd hpl2 hb hnS htk z1
                go_wp2_with (go_at_call 26; refine PD.out.mono ?_; rintro e w9 ⟨v9, rfl, ho9, hb9⟩; obtain ⟨a9, c9, hv9⟩ := rows_hd ho9; rw [iz_length, PL2.out] at hv9; subst hv9; have D9 := Lib.hid (D8.out.below hb9); have B9 := Lib.hid ((B6.out.trans (B8.out.mono B6.out.size)).trans (hb9.mono (Nat.le_trans B6.out.size B8.out.size))); clear ho9 hb9)
                go_roundw
                case rel => exact ⟨k + 1, l', by omega, by go_num, D9.out.sub fun j hj => .inl hj, fun j hj => (B9.out.block j (by have e : bb = j := (by injection hj); rw [← e]; exact BBL.out)).trans (STc.out j hj)⟩
                case measure => simp [Go.RowKit.intOf]; omega
      · have hkm : k = n2 := by omega
        subst hkm
        have HB := Lib.hid hI.base
        clear hI hSt
        go_wp2_with (go_at_call 8; refine (alive15_any _).mono ?_; rintro e w9 ⟨rfl, hb9⟩; have B9 := Lib.hid (HB.out.trans (hb9.mono HB.out.size)); clear hb9)
        go_ret
        exact ⟨rfl, B9.out⟩
  · have NB := Lib.hid (cnew_bad z w hz)
    clear hi hg
    by_cases g1 : z ≥ 1
    · have g2 : ¬ z ≤ 1024 := by omega
      clear hz
      go_enter Try.func3, Try.ntmps3
      go_wp2_with (first
        | (go_at_call 7; refine NB.out.mono ?_; rintro e w2 ⟨rfl, hw2⟩; have hw3 := hw2.symm; clear hw2; subst hw3)
        | (go_at_call 8; refine (alive15_any _).mono ?_; rintro e w9 ⟨rfl, hb9⟩; have B9 := Lib.hid hb9; clear hb9)
        | fail)
      go_ret
      exact ⟨rfl, B9.out⟩
    · clear hz
      go_enter Try.func3, Try.ntmps3
      go_wp2_with (first
        | (go_at_call 7; refine NB.out.mono ?_; rintro e w2 ⟨rfl, hw2⟩; have hw3 := hw2.symm; clear hw2; subst hw3)
        | (go_at_call 8; refine (alive15_any _).mono ?_; rintro e w9 ⟨rfl, hb9⟩; have B9 := Lib.hid hb9; clear hb9)
        | fail)
      go_ret
      exact ⟨rfl, B9.out⟩
end Sha
end Go.Proofs.Yteiffdccfmfdbaa
