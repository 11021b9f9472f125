/- Layer 15, LruHolds: what is held for an item is what was put, or pinned, last; no more than room are held that are not pinned; what is pinned is held. For every input (written by lruholds.py). -/
import Derived.Test.YteiffdccfmfdbaaLruHoldM
import Derived.Test.YteiffdccfmfdbaaLruStep
import Derived.Test.YteiffdccfmfdbaaSame
import Derived.Deep.Cut
import Derived.Deep.CutBlock
import Derived.Deep.DeepCutAuto
namespace Go.Proofs.Yteiffdccfmfdbaa
namespace Sha
open Go.RowKit Mem Lru
theorem uBl : Try.prog.underlying 55 = some (.map 3 4) := Try.underlying55
theorem zeroBl (w : World) : (zeroValue 4).run Try.prog w = .ok (.bool false) w := by kernel_rfl
/-- The law's own blocks: two maps, and the steps'. -/
def hPr (bl bq : Nat) (vs : Value) : Foot := fun j => j = bl ∨ j = bq ∨ vs.ownBlock = some j
/-- The cache and the law's own blocks in the world wr. -/
structure HoldW (b room bl bq : Nat) (vs : Value) (w w2 : World) (n k : Nat) (l : List Hd) (fl fq : Int → Option Value) (wr : World) : Prop where
  c : CPr b room n l w wr (hPr bl bq vs)
  ml : MapV wr Try.prog 3 bl k fl
  mq : MapV wr Try.prog 3 bq k fq
  ne : bl ≠ bq
  nl : vs.ownBlock ≠ some bl
  nq : vs.ownBlock ≠ some bq
  st : ∀ j, vs.ownBlock = some j → wr.heap[j]? = w2.heap[j]?
structure HoldP (room : Nat) (l : List Hd) (fl fq : Int → Option Value) (w : World) : Prop where
  pins : ∀ y, (fq y).getD (.bool false) = .bool (pinOf l y)
  last : ∀ h ∈ l, ∃ u, fl h.item = some u ∧ Sl w u h.page
  un : (unH l).length ≤ room
theorem HoldW.below {b room bl bq n k : Nat} {vs : Value} {w w2 : World} {l : List Hd} {fl fq : Int → Option Value} {wr wx : World} (h : HoldW b room bl bq vs w w2 n k l fl fq wr) (hb : Below wr.heap.size wr wx) : HoldW b room bl bq vs w w2 n k l fl fq wx :=
  { h with c := h.c.below hb, ml := h.ml.below hb h.ml.lt, mq := h.mq.below hb h.mq.lt, st := fun j hj => (hb.block j (h.c.lt j (.inr (.inr hj)))).trans (h.st j hj) }
theorem HoldW.mono {b room bl bq n k n' k' : Nat} {vs : Value} {w w2 : World} {l : List Hd} {fl fq : Int → Option Value} {wr : World} (h : HoldW b room bl bq vs w w2 n k l fl fq wr) (hn : n ≤ n') (hk : k ≤ k') : HoldW b room bl bq vs w w2 n' k' l fl fq wr :=
  { h with c := h.c.mono hn, ml := h.ml.mono hk, mq := h.mq.mono hk }
theorem CPr.sub {b room n : Nat} {l : List Hd} {w wr : World} {Pr Pr' : Foot} (h : CPr b room n l w wr Pr) (hs : ∀ j, Pr' j → Pr j) : CPr b room n l w wr Pr' :=
  h.turn (Chg.refl _ _) (fun j hj => .inl (hs j hj)) fun j hj => h.lt j (hs j hj)
/-- A box that is made anew is none of the cache's. -/
theorem HoldW.box {b room bl bq n k : Nat} {vs : Value} {w w2 : World} {l : List Hd} {fl fq : Int → Option Value} {wr : World} (h : HoldW b room bl bq vs w w2 n k l fl fq wr) (o : Obj) : CPr b room n l w (wr.alloc o) (fun j => hPr bl bq vs j ∨ j = wr.heap.size) :=
  h.c.turn (Chg.of_below ((Below.refl _ _).alloc (Nat.le_refl _) o)) (fun j hj => hj.elim .inl fun e => .inr (by omega)) fun j hj => by
    have e : (wr.alloc o).heap.size = wr.heap.size + 1 := by simp
    rcases hj with hj | rfl
    · have := h.c.lt j hj; omega
    · omega
/-- A call of the cache. -/
theorem HoldW.call {b room bl bq n n' k : Nat} {vs : Value} {w w2 : World} {l l' : List Hd} {fl fq : Int → Option Value} {wr wx : World} {Pr : Foot} (h : HoldW b room bl bq vs w w2 n k l fl fq wr) (he : PrEnd b room n' l' w wr Pr wx) (hs : ∀ j, hPr bl bq vs j → Pr j) : HoldW b room bl bq vs w w2 n' k l' fl fq wx :=
  { h with c := he.c.sub hs, ml := h.ml.same (he.k bl (hs bl (.inl rfl))), mq := h.mq.same (he.k bq (hs bq (.inr (.inl rfl)))), st := fun j hj => (he.k j (hs j (.inr (.inr hj)))).trans (h.st j hj) }
/-- A map of the law's own is turned. -/
theorem CPr.map {b room n bl bq bx : Nat} {vs : Value} {w wr wx : World} {l : List Hd} (h : CPr b room n l w wr (hPr bl bq vs)) (hc : Chg (fun j => j = bx) wr wx) (hx : bx = bl ∨ bx = bq) : CPr b room n l w wx (hPr bl bq vs) :=
  h.turn (hc.mono fun j hj => .inl (by rw [hj]; rcases hx with rfl | rfl; exact .inl rfl; exact .inr (.inl rfl))) (fun j hj => .inl hj) fun j hj => Nat.lt_of_lt_of_le (h.lt j hj) hc.size
theorem HoldW.putL {b room bl bq n k : Nat} {vs : Value} {w w2 : World} {l : List Hd} {fl fq fl' : Int → Option Value} {wr wx : World} (h : HoldW b room bl bq vs w w2 n k l fl fq wr) (hc : Chg (fun j => j = bl) wr wx) (hm : MapV wx Try.prog 3 bl (k + 1) fl') : HoldW b room bl bq vs w w2 n (k + 1) l fl' fq wx :=
  { h with c := h.c.map hc (.inl rfl), ml := hm, mq := (h.mq.chg hc fun e => h.ne e.symm).mono (Nat.le_succ _), st := fun j hj => (hc.block j (h.c.lt j (.inr (.inr hj))) fun e => h.nl (by rw [hj, e])).trans (h.st j hj) }
theorem HoldW.putQ {b room bl bq n k : Nat} {vs : Value} {w w2 : World} {l : List Hd} {fl fq fq' : Int → Option Value} {wr wx : World} (h : HoldW b room bl bq vs w w2 n k l fl fq wr) (hc : Chg (fun j => j = bq) wr wx) (hm : MapV wx Try.prog 3 bq (k + 1) fq') : HoldW b room bl bq vs w w2 n (k + 1) l fl fq' wx :=
  { h with c := h.c.map hc (.inr rfl), mq := hm, ml := (h.ml.chg hc fun e => h.ne e).mono (Nat.le_succ _), st := fun j hj => (hc.block j (h.c.lt j (.inr (.inr hj))) fun e => h.nq (by rw [hj, e])).trans (h.st j hj) }
theorem pins_upd {fq : Int → Option Value} {p q : Int → Bool} (h : ∀ y, (fq y).getD (.bool false) = .bool (p y)) (x : Int) (t : Bool) (hq : q = updB p x t) : ∀ y, ((upd fq x (some (.bool t))) y).getD (.bool false) = .bool (q y) := by
  intro y
  subst hq
  unfold upd updB
  by_cases e : y = x
  · simp [e]
  · simp [e, h y]
/-- What is pinned is held. -/
theorem pin_facts {n : Nat} {l : List Hd} (ok : Ok n l) {fq : Int → Option Value} (hp : ∀ y, (fq y).getD (.bool false) = .bool (pinOf l y)) {x : Int} (hx : x ∈ items (pns l)) : (fq x).getD (.bool false) = .bool true ∧ wfI x ∧ (lkH l x).isSome = true := by
  have h1 := (mem_pns ok.nd x).1 hx
  rw [unitF_some] at h1
  obtain ⟨g, hg, e⟩ := mem_items.1 hx
  have hgl : g ∈ l := by unfold pns at hg; exact (List.mem_filter.1 hg).1
  have hr := ok.it g hgl
  refine ⟨by rw [hp x, h1], ?_, look_isSome.2 (mem_items.2 ⟨g, hgl, e⟩)⟩
  rw [← e]
  show (Lit.int .i64 g.item).wf = true
  simp [Lit.wf, IntKind.min, IntKind.max, IntKind.signed, IntKind.bits]
  omega
/-- A page is put: what is held is what was put last. -/
theorem last_put {l l' : List Hd} {fl : Int → Option Value} {w : World} {x : Int} {p : List (BitVec 8)} {vp : Value} (hl : ∀ h ∈ l, ∃ u, fl h.item = some u ∧ Sl w u h.page) (hp : Sl w vp p) (h : ∀ h ∈ l', (h.item = x ∧ h.page = p) ∨ (h ∈ l ∧ h.item ≠ x)) : ∀ h ∈ l', ∃ u, (upd fl x (some vp)) h.item = some u ∧ Sl w u h.page := fun g hg => by
  rcases h g hg with ⟨e1, e2⟩ | ⟨e1, e2⟩
  · exact ⟨vp, by rw [e1, upd_same], by rw [e2]; exact hp⟩
  · obtain ⟨u, h1, h2⟩ := hl g e1
    exact ⟨u, by rw [upd_other _ _ e2]; exact h1, h2⟩
theorem low_any (z : Int) (m : Nat) (hm : m < 100) : ∃ n : Nat, n ≤ m ∧ bits .and .i64 z (m : Int) = (n : Int) := by
  refine ⟨(BitVec.ofInt 64 z &&& BitVec.ofInt 64 (m : Int)).toNat, ?_, ?_⟩
  · rw [BitVec.toNat_and]
    refine Nat.le_trans Nat.and_le_right ?_
    simp
    omega
  · have h : (BitVec.ofInt 64 z &&& BitVec.ofInt 64 (m : Int)).toNat ≤ m := by
      rw [BitVec.toNat_and]
      refine Nat.le_trans Nat.and_le_right ?_
      simp
      omega
    show IntKind.i64.wrap (((BitVec.ofInt 64 z &&& BitVec.ofInt 64 (m : Int)).toNat : Nat) : Int) = _
    exact i64_id _ (by omega) (by omega)

set_option maxRecDepth 100000 in
set_option maxHeartbeats 2000000 in
theorem holds_core (x0 : BitVec 8) (li : List Step15) (vi : Value) (w : World) (hi : SlS15 w vi li) (hl : li.length ≤ 9223372036854775807) (hg : ∀ s ∈ li, wfI s.item) : Calls Try.prog 4 #[.int .u8 (x0.toNat : Int), vi] w fun e w' => e = .returned (.bool true) ∧ Below w.heap.size w w' := by
  obtain ⟨room, hroom⟩ : ∃ room : Nat, room = x0.toNat % 8 + 1 := ⟨_, rfl⟩
  have hx0 := x0.isLt
  have hr1 : 1 ≤ room := by omega
  have hr2 : room ≤ 8 := by omega
  have hre : ((x0.toNat : Int) % 8 + 1) = (room : Int) := by omega
  obtain ⟨sh, hsh⟩ : ∃ sh, sh = shortS li := ⟨_, rfl⟩
  have hshl : sh.length ≤ 200 := by rw [hsh]; unfold shortS; rw [List.length_map, List.length_take]; omega
  have hshp : ∀ s ∈ sh, wfI s.item ∧ Sl w s.pv s.page ∧ s.page.length ≤ 50 := by
    intro s hs
    rw [hsh] at hs
    obtain ⟨s', hs', rfl⟩ := List.mem_map.1 hs
    have hm := List.mem_of_mem_take hs'
    refine ⟨hg s' hm, ?_, by unfold cutS; simp; omega⟩
    exact cut_sl (hi.2 s' hm)
  have hnew := m_new room w w hr1 (by omega) (Below.refl _ _)
  have NW := Lib.hid hnew; have SI := Lib.hid hi; have RE := Lib.hid hre; have SHP := Lib.hid hshp; have SH := Lib.hid hsh
  clear hnew hi hre hshp hsh hroom hg
  go_enter Try.func4, Try.ntmps4
  go_wp2_with fail
  rw [RE.out]
  refine NW.out.mono ?_
  rintro e wn ⟨b, rfl, h1⟩
  have hml := mapV_made wn Try.prog 3
  have hmq := mapV_made (wn.alloc (.map #[] 0)) Try.prog 3
  have hsz : (wn.alloc (.map #[] 0)).heap.size = wn.heap.size + 1 := by simp
  have hbn : Below wn.heap.size wn ((wn.alloc (.map #[] 0)).alloc (.map #[] 0)) := ((Below.refl _ _).alloc (Nat.le_refl _) _).alloc (by simp) _
  have hml2 := hml.alloc (.map #[] 0)
  have hshort := short15_any li vi ((wn.alloc (.map #[] 0)).alloc (.map #[] 0)) (SI.out.below (h1.b.trans (hbn.mono h1.b.size))) hl
  rw [hsz] at hmq
  rw [← SH.out] at hshort
  have H1 := Lib.hid h1; have ML := Lib.hid hml2; have MQ := Lib.hid hmq; have BN := Lib.hid hbn; have SHO := Lib.hid hshort
  clear NW RE h1 hml hmq hsz hbn hml2 hshort
  go_wp2_with (first
    | (refine wpList_mapV_made (by rfl) 54 (by rfl) ?_)
    | (refine wpList_mapV_made (by rfl) 55 (by rfl) ?_)
    | (go_at_call 9; refine SHO.out.mono ?_; rintro e w2 ⟨vs, rfl, hs2, ho2, hb2⟩; obtain ⟨va, vc, rfl⟩ : ∃ va vc, vs = .slice va sh.length vc := (by obtain ⟨⟨va, vc, e, _⟩, _⟩ := hs2; exact ⟨va, vc, e⟩); have S2 := Lib.hid hs2; have B2 := Lib.hid hb2; have OW2 := Lib.hid ho2; clear hs2 hb2 ho2)
    | fail)
  obtain ⟨n2, hn2⟩ : ∃ n2, n2 = sh.length := ⟨_, rfl⟩
  have hn2b : n2 ≤ 200 := by omega
  obtain ⟨bl, hbl⟩ : ∃ bl, bl = wn.heap.size := ⟨_, rfl⟩
  obtain ⟨bq, hbq⟩ : ∃ bq, bq = wn.heap.size + 1 := ⟨_, rfl⟩
  have hS2 : SlS15 w2 (.slice va n2 vc) sh := by rw [hn2]; exact S2.out
  have hO2 : ∀ j, (Value.slice va n2 vc).ownBlock = some j → wn.heap.size + 1 + 1 ≤ j ∧ j < w2.heap.size := fun j hj => by
    have := OW2.out j (by rw [← hn2]; exact hj)
    simpa using this
  have hbn2 : Below wn.heap.size wn w2 := BN.out.trans (B2.out.mono BN.out.size)
  have hB2 : Below (wn.heap.size + 1 + 1) ((wn.alloc (.map #[] 0)).alloc (.map #[] 0)) w2 := by have := B2.out; simpa using this
  have hI0 : HoldW b room bl bq (.slice va n2 vc) w w2 0 0 [] (fun _ => none) (fun _ => none) w2 := by
    refine ⟨?_, ?_, ?_, by omega, fun e => by have := (hO2 bl e).1; omega, fun e => by have := (hO2 bq e).1; omega, fun j _ => rfl⟩
    · have hs := hbn2.size
      have hsz3 := hB2.size
      have hlw : ∀ j, hPr bl bq (.slice va n2 vc) j → wn.heap.size ≤ j ∧ j < w2.heap.size := fun j hj => by
        rcases hj with rfl | rfl | hj
        · simp at hsz3; omega
        · simp at hsz3; omega
        · have := hO2 j hj; omega
      exact H1.out.pr.turn (Chg.of_below hbn2) (fun j hj => .inr (hlw j hj).1) fun j hj => (hlw j hj).2
    · rw [hbl]; exact ML.out.below hB2 (by omega)
    · rw [hbq]; exact MQ.out.below hB2 (by omega)
  have I0 := Lib.hid hI0; have S3 := Lib.hid hS2
  rw [← hn2, ← hbq, ← hbl]
  clear hI0 hS2 hO2 hbn2 hB2 H1 ML MQ BN SHO S2 B2 OW2 hn2 hbl hbq
  go_wp2_with fail
  go_loopw [40] (fun a40 wr => ∃ (k : Nat) (l : List Hd) (fl fq : Int → Option Value), k ≤ n2 ∧ a40 = .int .i64 (k : Int) ∧ HoldW b room bl bq (.slice va n2 vc) w w2 (2 * k) (2 * k) l fl fq wr ∧ HoldP room l fl fq w) (fun i _ => n2 - (Go.RowKit.intOf i).toNat)
  case atStart => exact ⟨0, [], _, _, Nat.zero_le _, rfl, I0.out, fun y => rfl, fun h hh => (by cases hh), Nat.zero_le _⟩
  case round =>
    clear I0
    obtain ⟨k, l, fl, fq, hk, rfl, hI, hP⟩ := hrel
    generalize wr = w1 at hI ⊢
    by_cases hlt : k < n2
    · have hlt' : (k : Int) < (n2 : Int) := by omega
      have hkl : k < sh.length := by obtain ⟨⟨_, _, e, _⟩, _⟩ := S3.out; injection e with _ e _; omega
      obtain ⟨bb, oo, rfl, hbb, hrg, hpg⟩ := slS15_at S3.out (i := k) hkl
      obtain ⟨s, hs⟩ : ∃ s, s = sh.getD k default := ⟨_, rfl⟩
      have hsm : s ∈ sh := by rw [hs, List.getD_eq_getElem?_getD, List.getElem?_eq_getElem hkl]; exact List.getElem_mem hkl
      obtain ⟨hwf, hsl, hpl⟩ := SHP.out s hsm
      rw [← hs] at hrg
      have hst := hI.st bb rfl
      have hrg1 : w1.rangeAt bb (oo + k * 3) (stM s).toList := fun j u hu => by rw [World.cell?_of_block (w := w2) (w' := w1) (a := ⟨bb, oo + k * 3 + j, none⟩) hst]; exact hrg j u hu
      obtain ⟨c, hc⟩ : ∃ c, c = s.k.toNat := ⟨_, rfl⟩
      have hcl : c < 256 := by have := s.k.isLt; omega
      obtain ⟨it, hit⟩ : ∃ it, it = s.item := ⟨_, rfl⟩
      obtain ⟨pv, hpv⟩ : ∃ pv, pv = s.pv := ⟨_, rfl⟩
      obtain ⟨pg, hpg2⟩ : ∃ pg, pg = s.page := ⟨_, rfl⟩
      have hk0 : (stM s)[0]? = some (.int .u8 (c : Int)) := by rw [hc]; rfl
      have hk1 : (stM s)[1]? = some (.int .i64 it) := by rw [hit]; rfl
      have hk2 : (stM s)[2]? = some pv := by rw [hpv]; rfl
      have hone := stM_one s
      have hsz := stM_size s
      obtain ⟨M, hM⟩ : ∃ M, M = stM s := ⟨_, rfl⟩
      rw [← hM] at hrg1 hk0 hk1 hk2 hone hsz
      rw [← hit] at hwf
      rw [← hpv, ← hpg2] at hsl
      rw [← hpg2] at hpl
      have hpv2 : ∃ a c, pv = .slice a pg.length c := by obtain ⟨a, c, e, _⟩ := hsl; exact ⟨a, c, e⟩
      have hnw := at_new w1 M 34
      obtain ⟨bx, hbx⟩ : ∃ bx, bx = w1.heap.size := ⟨_, rfl⟩
      obtain ⟨w3, hw3⟩ : ∃ w3, w3 = w1.alloc (.cells M 34) := ⟨_, rfl⟩
      have hI3 : HoldW b room bl bq (.slice (some ⟨bb, oo, none⟩) n2 vc) w w2 (2 * k) (2 * k) l fl fq w3 := by rw [hw3]; exact hI.below ((Below.refl _ _).alloc (Nat.le_refl _) _)
      have hB3 : CPr b room (2 * k) l w w3 (fun j => hPr bl bq (.slice (some ⟨bb, oo, none⟩) n2 vc) j ∨ j = bx) := by rw [hw3, hbx]; exact hI.box _
      rw [← hw3, ← hbx] at hnw
      have RG := Lib.hid hrg1; have ONE := Lib.hid hone; have SZ := Lib.hid hsz; have NW := Lib.hid hnw; have WX := Lib.hid hw3; have BX := Lib.hid hbx; have I3 := Lib.hid hI3; have B3 := Lib.hid hB3; have HP := Lib.hid hP; have WF := Lib.hid hwf; have SL := Lib.hid hsl; have PL := Lib.hid hpl
      have k0 : w3.cell? ⟨bx, 0, none⟩ = some (.int .u8 (c : Int)) := by rw [hnw.cell]; exact hk0
      have k1 : w3.cell? ⟨bx, 1, none⟩ = some (.int .i64 it) := by rw [hnw.cell]; exact hk1
      have k2 : w3.cell? ⟨bx, 2, none⟩ = some pv := by rw [hnw.cell]; exact hk2
      clear hI hP hB3 hrg hpg hsm hwf hsl hpl hst hrg1 hk0 hk1 hk2 hone hsz hnw hI3 hw3 hbx hM hs hit hpv hpg2 hc hkl hbb
      go_upto_block 2 with (first
        | (refine wpList_load_mid (by rfl) 34 _ (by rfl) bb (oo + k * 3) (by rfl) M.toList _ RG.out Try.underlying34 (by rfl) (by rw [infoSt, Array.length_toList, SZ.out]) ?_; rw [Array.toArray_toList])
        | (refine wpList_store_new (by rfl) 34 _ _ (by rfl) (by rfl) M _ 34 (by rfl) (by rfl) (by rw [infoSt, SZ.out]) (by rw [SZ.out]; rfl) ONE.out ?_; rw [← BX.out, ← WX.out])
        | fail)
      obtain ⟨y, hy15, hyb⟩ := low_any it 15 (by decide)
      have hyb : bits .and .i64 it 15 = (y : Int) := hyb
      rw [hyb]
      clear hyb
      obtain ⟨pa, pc, rfl⟩ := hpv2
      obtain ⟨np, hnp⟩ : ∃ np, np = pg.length := ⟨_, rfl⟩
      rw [← hnp] at k2
      have SLw : Hid (Sl w (.slice pa np pc) pg) := Lib.hid (by rw [hnp]; exact SL.out)
      have hy4 : (0 : Int) ≤ (y : Int) ∧ (y : Int) < 4096 := by omega
      have hyw : wfI (y : Int) := by show (Lit.int .i64 (y : Int)).wf = true; simp [Lit.wf, IntKind.min, IntKind.max, IntKind.signed, IntKind.bits]; omega
      obtain ⟨Y, hY⟩ : ∃ Y : Int, Y = (y : Int) := ⟨_, rfl⟩
      rw [← hY] at hy4 hyw ⊢
      have Y4 := Lib.hid hy4; have YW := Lib.hid hyw
      have KB : Hid (k < 200) := Lib.hid (by omega)
      clear hnp hy4 hyw hY hy15 SL
      go_cut [49] (fun u wx => (∃ l' fl' fq', HoldW b room bl bq (.slice (some ⟨bb, oo, none⟩) n2 vc) w w2 (2 * (k + 1)) (2 * (k + 1)) l' fl' fq' wx ∧ HoldP room l' fl' fq' w) ∧ ∃ u2, u2 = u)
      case first =>
        by_cases g2 : c % 6 = 2
        · have g2' : (c : Int) % 6 = 2 := by omega
          have hget := q_get I3.out.c Y YW.out (by have := KB.out; omega)
          obtain ⟨p1, p2, p3⟩ := get_hold HP.out.un Y
          have hpn := HP.out.pins Y
          cases hs : lkH l Y with
          | none =>
            have e1 : getH l Y = (l, none) := by unfold getH; rw [hs]
            have e2 : pinOf l Y = false := by unfold pinOf; rw [hs]
            rw [e1] at hget
            rw [e2] at hpn
            have GET := Lib.hid hget; have PN := Lib.hid hpn
            clear hget hpn p1 p2 p3 e1 e2 hs k0 k1 k2
            go_wp2_with (first
              | (go_at_call 10; refine GET.out.mono ?_; rintro e w4 ⟨⟨v4, rfl, ho4⟩, he⟩; obtain ⟨a4, c4, rfl⟩ := rows_hd ho4; have I4 := Lib.hid (I3.out.call he fun j hj => hj); clear he ho4)
              | (at_lookup; refine wpList_mapV_look (by rfl) 55 _ _ (by rfl) 4 I4.out.mq Y (by rfl) (by rfl) uInt uBl (.bool false) (zeroBl _) YW.out (.bool false) PN.out ?_)
              | fail)
            go_meet
            exact ⟨⟨l, fl, fq, I4.out.mono (by omega) (by omega), HP.out⟩, _, rfl⟩
          | some h =>
            obtain ⟨hm, hit⟩ := look_some hs
            have e1 : getH l Y = (h :: rsH l Y, some h.page) := by unfold getH; rw [hs]
            obtain ⟨u, hu1, hu2⟩ := HP.out.last h hm
            rw [hit] at hu1
            have hpl := I3.out.c.mine.ok.pg h hm
            rw [e1] at hget p1 p2 p3
            obtain ⟨hp, hhp⟩ : ∃ hp, hp = h.page := ⟨_, rfl⟩
            obtain ⟨l2, hl2⟩ : ∃ l2, l2 = h :: rsH l Y := ⟨_, rfl⟩
            rw [← hhp] at hget hu2 hpl
            rw [← hl2] at hget p1 p2 p3
            have hP2 : HoldP room l2 fl fq w := ⟨fun y => by rw [p1]; exact HP.out.pins y, fun g hg => HP.out.last g (p3 g hg), p2⟩
            obtain ⟨ua, uc, rfl⟩ : ∃ ua uc, u = .slice ua hp.length uc := (by obtain ⟨a, c, e, _⟩ := hu2; exact ⟨a, c, e⟩)
            obtain ⟨nh, hnh⟩ : ∃ nh, nh = hp.length := ⟨_, rfl⟩
            rw [← hnh] at hu1 hu2
            have hfl : (fl Y).getD (.slice none 0 0) = .slice ua nh uc := by rw [hu1]; rfl
            obtain ⟨q, hq⟩ : ∃ q, q = pinOf l Y := ⟨_, rfl⟩
            rw [← hq] at hpn
            have hget : Calls Try.prog 10 #[cq b, .int .i64 Y] w3 fun e w' => (∃ v, e = .returned (.tuple #[v, .bool true]) ∧ OwnB w' w3.heap.size v hp) ∧ PrEnd b room (2 * k + 1) l2 w w3 (hPr bl bq (.slice (some ⟨bb, oo, none⟩) n2 vc)) w' := hget
            have GET := Lib.hid hget; have FL := Lib.hid hfl; have U2 := Lib.hid hu2; have P2 := Lib.hid hP2; have HPL := Lib.hid hpl; have NH := Lib.hid hnh
            clear hget hfl hu2 hP2 hpl hu1 hm hit e1 p1 p2 p3 hs hl2 hhp hq hnh k0 k1 k2
            cases q
            · have PN := Lib.hid hpn
              clear hpn
              go_wp2_with (first
                | (go_at_call 10; refine GET.out.mono ?_; rintro e w4 ⟨⟨v4, rfl, ho4⟩, he⟩; obtain ⟨a4, c4, rfl⟩ := rows_hd ho4; have O4 : Hid (Sl w4 (.slice a4 hp.length c4) hp) := Lib.hid ho4.sl; have I4 := Lib.hid (I3.out.call he fun j hj => hj); have U4 : Hid (Sl w4 (.slice ua nh uc) hp) := Lib.hid (U2.out.below I4.out.c.b); clear he ho4; rw [← NH.out])
                | (at_lookup; refine wpList_mapV_look (by rfl) 54 _ _ (by rfl) 32 I4.out.ml Y (by rfl) (by rfl) uInt uPg (.slice none 0 0) (zeroSB _) YW.out (.slice ua nh uc) FL.out ?_)
                | (at_lookup; refine wpList_mapV_look (by rfl) 55 _ _ (by rfl) 4 I5.out.mq Y (by rfl) (by rfl) uInt uBl (.bool false) (zeroBl _) YW.out (.bool false) PN.out ?_)
                | (go_at_call 12; refine (same_any hp hp (.slice a4 nh c4) (.slice ua nh uc) w4 (by rw [NH.out]; exact O4.out) U4.out (by have := HPL.out; omega) (by have := HPL.out; omega)).mono ?_; rw [sameB_self]; rintro e w5 ⟨rfl, hb⟩; have I5 := Lib.hid (I4.out.below hb); clear hb)
                | fail)
              go_meet
              exact ⟨⟨l2, fl, fq, I5.out.mono (by omega) (by omega), P2.out⟩, _, rfl⟩
            · have PN := Lib.hid hpn
              clear hpn
              go_wp2_with (first
                | (go_at_call 10; refine GET.out.mono ?_; rintro e w4 ⟨⟨v4, rfl, ho4⟩, he⟩; obtain ⟨a4, c4, rfl⟩ := rows_hd ho4; have O4 : Hid (Sl w4 (.slice a4 hp.length c4) hp) := Lib.hid ho4.sl; have I4 := Lib.hid (I3.out.call he fun j hj => hj); have U4 : Hid (Sl w4 (.slice ua nh uc) hp) := Lib.hid (U2.out.below I4.out.c.b); clear he ho4; rw [← NH.out])
                | (at_lookup; refine wpList_mapV_look (by rfl) 54 _ _ (by rfl) 32 I4.out.ml Y (by rfl) (by rfl) uInt uPg (.slice none 0 0) (zeroSB _) YW.out (.slice ua nh uc) FL.out ?_)
                | (at_lookup; refine wpList_mapV_look (by rfl) 55 _ _ (by rfl) 4 I5.out.mq Y (by rfl) (by rfl) uInt uBl (.bool false) (zeroBl _) YW.out (.bool true) PN.out ?_)
                | (go_at_call 12; refine (same_any hp hp (.slice a4 nh c4) (.slice ua nh uc) w4 (by rw [NH.out]; exact O4.out) U4.out (by have := HPL.out; omega) (by have := HPL.out; omega)).mono ?_; rw [sameB_self]; rintro e w5 ⟨rfl, hb⟩; have I5 := Lib.hid (I4.out.below hb); clear hb)
                | fail)
              go_meet
              exact ⟨⟨l2, fl, fq, I5.out.mono (by omega) (by omega), P2.out⟩, _, rfl⟩
        by_cases g3 : c % 6 = 3
        · have g3' : (c : Int) % 6 = 3 := by omega
          have g2' : ¬ (c : Int) % 6 = 2 := by omega
          have hpin := q_pin B3.out Y pg (.slice pa np pc) (SLw.out.below (I3.out.c.b)) (by have := PL.out; omega) (by have := KB.out; omega)
          obtain ⟨p1, p2, p3⟩ := pin_hold HP.out.un Y4.out pg
          obtain ⟨l2, hl2⟩ : ∃ l2, l2 = (pinH l Y pg).1 := ⟨_, rfl⟩
          obtain ⟨er, her⟩ : ∃ er, er = (pinH l Y pg).2 := ⟨_, rfl⟩
          rw [← hl2] at hpin p1 p2 p3
          rw [← her] at hpin
          have hP2 : HoldP room l2 (upd fl Y (some (.slice pa np pc))) (upd fq Y (some (.bool true))) w := ⟨pins_upd HP.out.pins Y true p1, last_put HP.out.last SLw.out p3, p2⟩
          have PIN := Lib.hid hpin; have P2 := Lib.hid hP2
          clear hpin p1 p2 p3 hl2 hP2 her k0 k1
          go_wp2_with (first
            | (go_at_call 13; refine PIN.out.mono ?_; rintro e w4 ⟨rfl, he⟩; have I4 := Lib.hid (I3.out.call he fun j hj => .inl hj); have k24 : w4.cell? ⟨bx, 2, none⟩ = some (.slice pa np pc) := (World.cell?_of_block (a := ⟨bx, 2, none⟩) (he.k bx (.inr rfl))).trans k2; clear he k2)
            | (refine wpList_mapV_put (by rfl) 54 _ _ _ (by rfl) 32 I4.out.ml Y (.slice pa np pc) (by rfl) (by rfl) (by rfl) uInt uPg (by have := KB.out; unfold maxLen; omega) YW.out ?_; intro w5 hm hc _; have I5 := Lib.hid (I4.out.putL hc hm); clear hm hc k24)
            | (refine wpList_mapV_put (by rfl) 55 _ _ _ (by rfl) 4 I5.out.mq Y (.bool true) (by rfl) (by rfl) (by rfl) uInt uBl (by have := KB.out; unfold maxLen; omega) YW.out ?_; intro w6 hm hc _; have I6 := Lib.hid (I5.out.putQ hc hm); clear hm hc)
            | fail)
          go_meet
          exact ⟨⟨l2, _, _, I6.out.mono (by omega) (by omega), P2.out⟩, _, rfl⟩
        by_cases g4 : c % 6 = 4
        · have g4' : (c : Int) % 6 = 4 := by omega
          have g2' : ¬ (c : Int) % 6 = 2 := by omega
          have g3' : ¬ (c : Int) % 6 = 3 := by omega
          have hun := q_unpin I3.out.c Y YW.out (by have := KB.out; omega)
          obtain ⟨p1, p2, p3, p4⟩ := unp_hold I3.out.c.mine.ok HP.out.un Y
          have hpn := HP.out.pins Y
          rw [p2] at hun
          obtain ⟨l2, hl2⟩ : ∃ l2, l2 = (unpH room l Y).1 := ⟨_, rfl⟩
          obtain ⟨er, her⟩ : ∃ er, er = (unpH room l Y).2.1 := ⟨_, rfl⟩
          rw [← hl2] at hun p1 p3 p4
          rw [← her] at hun
          have hP2 : HoldP room l2 fl (upd fq Y (some (.bool false))) w := ⟨pins_upd HP.out.pins Y false p1, fun g hg => (by obtain ⟨g2, hg2, e1, e2⟩ := p4 g hg; rw [← e1, ← e2]; exact HP.out.last g2 hg2), p3⟩
          obtain ⟨q, hq⟩ : ∃ q, q = pinOf l Y := ⟨_, rfl⟩
          rw [← hq] at hpn hun
          have UN := Lib.hid hun; have P2 := Lib.hid hP2; have PN := Lib.hid hpn
          clear hun p1 p2 p3 p4 hl2 hP2 her hq hpn k0 k1 k2
          cases q
          · go_wp2_with (first
              | (go_at_call 15; refine UN.out.mono ?_; rintro e w4 ⟨rfl, he⟩; have I4 := Lib.hid (I3.out.call he fun j hj => hj); clear he)
              | (at_lookup; refine wpList_mapV_look (by rfl) 55 _ _ (by rfl) 4 I4.out.mq Y (by rfl) (by rfl) uInt uBl (.bool false) (zeroBl _) YW.out (.bool false) PN.out ?_)
              | (refine wpList_mapV_put (by rfl) 55 _ _ _ (by rfl) 4 I4.out.mq Y (.bool false) (by rfl) (by rfl) (by rfl) uInt uBl (by have := KB.out; unfold maxLen; omega) YW.out ?_; intro w5 hm hc _; have I5 := Lib.hid (I4.out.putQ hc hm); clear hm hc)
              | fail)
            go_meet
            exact ⟨⟨l2, _, _, I5.out.mono (by omega) (by omega), P2.out⟩, _, rfl⟩
          · go_wp2_with (first
              | (go_at_call 15; refine UN.out.mono ?_; rintro e w4 ⟨rfl, he⟩; have I4 := Lib.hid (I3.out.call he fun j hj => hj); clear he)
              | (at_lookup; refine wpList_mapV_look (by rfl) 55 _ _ (by rfl) 4 I4.out.mq Y (by rfl) (by rfl) uInt uBl (.bool false) (zeroBl _) YW.out (.bool true) PN.out ?_)
              | (refine wpList_mapV_put (by rfl) 55 _ _ _ (by rfl) 4 I4.out.mq Y (.bool false) (by rfl) (by rfl) (by rfl) uInt uBl (by have := KB.out; unfold maxLen; omega) YW.out ?_; intro w5 hm hc _; have I5 := Lib.hid (I4.out.putQ hc hm); clear hm hc)
              | fail)
            go_meet
            exact ⟨⟨l2, _, _, I5.out.mono (by omega) (by omega), P2.out⟩, _, rfl⟩
        by_cases g5 : c % 6 = 5
        · have g5' : (c : Int) % 6 = 5 := by omega
          have g2' : ¬ (c : Int) % 6 = 2 := by omega
          have g3' : ¬ (c : Int) % 6 = 3 := by omega
          have g4' : ¬ (c : Int) % 6 = 4 := by omega
          have hdr := q_drop I3.out.c Y YW.out
          obtain ⟨p1, p3, p4⟩ := drop_hold HP.out.un Y
          obtain ⟨l2, hl2⟩ : ∃ l2, l2 = (drpH l Y).1 := ⟨_, rfl⟩
          obtain ⟨er, her⟩ : ∃ er, er = (drpH l Y).2 := ⟨_, rfl⟩
          rw [← hl2] at hdr p1 p3 p4
          rw [← her] at hdr
          have hP2 : HoldP room l2 fl (upd fq Y (some (.bool false))) w := ⟨pins_upd HP.out.pins Y false p1, fun g hg => HP.out.last g (p4 g hg).1, p3⟩
          have DR := Lib.hid hdr; have P2 := Lib.hid hP2
          clear hdr p1 p3 p4 hl2 hP2 her k0 k1 k2
          go_wp2_with (first
            | (go_at_call 17; refine DR.out.mono ?_; rintro e w4 ⟨rfl, he⟩; have I4 := Lib.hid (I3.out.call he fun j hj => hj); clear he)
            | (refine wpList_mapV_put (by rfl) 55 _ _ _ (by rfl) 4 I4.out.mq Y (.bool false) (by rfl) (by rfl) (by rfl) uInt uBl (by have := KB.out; unfold maxLen; omega) YW.out ?_; intro w5 hm hc _; have I5 := Lib.hid (I4.out.putQ hc hm); clear hm hc)
            | fail)
          go_meet
          exact ⟨⟨l2, _, _, I5.out.mono (by omega) (by omega), P2.out⟩, _, rfl⟩
        have g2' : ¬ (c : Int) % 6 = 2 := by omega
        have g3' : ¬ (c : Int) % 6 = 3 := by omega
        have g4' : ¬ (c : Int) % 6 = 4 := by omega
        have g5' : ¬ (c : Int) % 6 = 5 := by omega
        have hpt := q_put B3.out Y pg (.slice pa np pc) (SLw.out.below (I3.out.c.b)) (by have := PL.out; omega) (by have := KB.out; omega)
        obtain ⟨p1, p2, p3⟩ := put_hold I3.out.c.mine.ok HP.out.un Y4.out (p := pg) (by have := PL.out; omega)
        obtain ⟨l2, hl2⟩ : ∃ l2, l2 = (putH room l Y pg).1 := ⟨_, rfl⟩
        obtain ⟨e1, he1⟩ : ∃ e1, e1 = (putH room l Y pg).2.1 := ⟨_, rfl⟩
        obtain ⟨e2, he2⟩ : ∃ e2, e2 = (putH room l Y pg).2.2 := ⟨_, rfl⟩
        rw [← hl2] at hpt p1 p2 p3
        rw [← he1, ← he2] at hpt
        have hP2 : HoldP room l2 (upd fl Y (some (.slice pa np pc))) fq w := ⟨fun y => by rw [p1]; exact HP.out.pins y, last_put HP.out.last SLw.out p3, p2⟩
        have PT := Lib.hid hpt; have P2 := Lib.hid hP2
        clear hpt p1 p2 p3 hl2 hP2 he1 he2 k0 k1
        go_wp2_with (first
          | (go_at_call 19; refine PT.out.mono ?_; rintro e w4 ⟨rfl, he⟩; have I4 := Lib.hid (I3.out.call he fun j hj => .inl hj); have k24 : w4.cell? ⟨bx, 2, none⟩ = some (.slice pa np pc) := (World.cell?_of_block (a := ⟨bx, 2, none⟩) (he.k bx (.inr rfl))).trans k2; clear he k2)
          | (refine wpList_mapV_put (by rfl) 54 _ _ _ (by rfl) 32 I4.out.ml Y (.slice pa np pc) (by rfl) (by rfl) (by rfl) uInt uPg (by have := KB.out; unfold maxLen; omega) YW.out ?_; intro w5 hm hc _; have I5 := Lib.hid (I4.out.putL hc hm); clear hm hc k24)
          | fail)
        go_meet
        exact ⟨⟨l2, _, _, I5.out.mono (by omega) (by omega), P2.out⟩, _, rfl⟩
      case rest =>
        obtain ⟨⟨l', fl', fq', hI4, hP4⟩, uu, rfl⟩ := hcut
        clear k0 k1 k2 I3 B3 HP SLw PL WF RG ONE SZ NW WX BX Y4 YW
        have hok := hI4.c.mine.ok
        have hpd := m_pinned hI4.c.mine (by have := KB.out; omega)
        have hpar := len_parts l'
        have hun := hP4.un
        have hln := hok.len
        obtain ⟨S, hS⟩ : ∃ S, S = sortI (items (pns l')) := ⟨_, rfl⟩
        have hSl : S.length = (pns l').length := by rw [hS, sortI_len]; simp [items]
        have hel : ∀ i, i < S.length → (fq' (S.getD i 0)).getD (.bool false) = .bool true ∧ wfI (S.getD i 0) ∧ (lkH l' (S.getD i 0)).isSome = true := fun i hi => pin_facts hok hP4.pins (by rw [hS]; exact sortI_mem (by rw [← hS]; exact hi))
        have hri : ∀ i, i + 1 < S.length → S.getD i 0 < S.getD (i + 1) 0 := fun i hi => by rw [hS] at hi ⊢; exact sortI_rise (pns_nodup hok.nd) i hi
        rw [← hS] at hpd
        obtain ⟨nS, hnS⟩ : ∃ nS, nS = S.length := ⟨_, rfl⟩
        obtain ⟨nL, hnL⟩ : ∃ nL, nL = l'.length := ⟨_, rfl⟩
        have hle : nS ≤ nL := by omega
        have hlr : nL ≤ nS + room := by omega
        have hnb : nL ≤ 400 := by have := KB.out; omega
        rw [← hnS] at hel hri
        have PD := Lib.hid hpd; have EL := Lib.hid hel; have RI := Lib.hid hri; have I4 := Lib.hid hI4; have P4 := Lib.hid hP4; have NS := Lib.hid hnS; have NL := Lib.hid hnL
        clear hpd hel hri hI4 hP4 hok hpar hun hln hSl hS hnS hnL
        go_wp2_with (first
          | (go_at_call 26; refine PD.out.mono ?_; rintro e w6 ⟨v6, rfl, ho6, hb6⟩; obtain ⟨a6, c6, hv6⟩ := rows_hd ho6; rw [iz_length, ← NS.out] at hv6; subst hv6; have I6 := Lib.hid (I4.out.below hb6); have O6 := Lib.hid (ownV_sli ho6); clear ho6 hb6)
          | (go_at_call 22; refine (m_len I6.out.c.mine).mono ?_; rintro e w7 ⟨rfl, hw7⟩; have hw8 := hw7.symm; clear hw7; subst hw8; rw [← NL.out])
          | fail)
        go_loopw [131] (fun a131 wr => ∃ i : Nat, i ≤ nS ∧ a131 = .int .i64 (i : Int) ∧ wr = w6) (fun i _ => nS - (Go.RowKit.intOf i).toNat)
        case atStart => exact ⟨0, Nat.zero_le _, rfl, rfl⟩
        case round =>
          obtain ⟨i, hi, rfl, hwr⟩ := hrel
          have hwr2 := hwr.symm
          clear hwr
          subst hwr2
          by_cases hlt2 : i < nS
          · have hlt2' : (i : Int) < (nS : Int) := by omega
            obtain ⟨g, o, rfl, _, d⟩ := sli_at O6.out NS.out hlt2
            obtain ⟨f1, f2, f3⟩ := EL.out i hlt2
            have hhas := m_has I6.out.c.mine _ f2
            rw [f3] at hhas
            by_cases h0 : i = 0
            · have h0' : ¬ (i : Int) > 0 := by omega
              clear h0
              obtain ⟨U, hU⟩ : ∃ U, U = S.getD i 0 := ⟨_, rfl⟩
              rw [← hU] at d f1 f2 hhas
              have F1 := Lib.hid f1; have F2 := Lib.hid f2; have HAS := Lib.hid hhas
              clear f1 f2 f3 hhas hU
              go_wp2_with (first
                | (at_lookup; refine wpList_mapV_look (by rfl) 55 _ _ (by rfl) 4 I6.out.mq U (by rfl) (by rfl) uInt uBl (.bool false) (zeroBl _) F2.out (.bool true) F1.out ?_)
                | (go_at_call 24; refine HAS.out.mono ?_; rintro e w8 ⟨rfl, hw8⟩; have hw9 := hw8.symm; clear hw8; subst hw9)
                | fail)
              go_roundw
              case rel => exact ⟨i + 1, by omega, by go_num, by first | trivial | rfl⟩
              case measure => simp [Go.RowKit.intOf]; omega
            · obtain ⟨i, rfl⟩ : ∃ j, i = j + 1 := ⟨i - 1, by omega⟩
              obtain ⟨g2, o2, ha2, _, d2⟩ := sli_at O6.out NS.out (show i < nS by omega)
              injection ha2 with ha2
              injection ha2 with ea eb _
              subst ea eb
              have hr2 := RI.out i hlt2
              obtain ⟨U, hU⟩ : ∃ U, U = S.getD (i + 1) 0 := ⟨_, rfl⟩
              obtain ⟨V, hV⟩ : ∃ V, V = S.getD i 0 := ⟨_, rfl⟩
              rw [← hU] at d f1 f2 hhas
              rw [← hU, ← hV] at hr2
              rw [← hV] at d2
              have F1 := Lib.hid f1; have F2 := Lib.hid f2; have HAS := Lib.hid hhas
              clear f1 f2 f3 hhas hU hV
              go_wp2_with (first
                | (at_lookup; refine wpList_mapV_look (by rfl) 55 _ _ (by rfl) 4 I6.out.mq U (by rfl) (by rfl) uInt uBl (.bool false) (zeroBl _) F2.out (.bool true) F1.out ?_)
                | (go_at_call 24; refine HAS.out.mono ?_; rintro e w8 ⟨rfl, hw8⟩; have hw9 := hw8.symm; clear hw8; subst hw9)
                | fail)
              go_roundw
              case rel => exact ⟨i + 1 + 1, by omega, by go_num, by first | trivial | rfl⟩
              case measure => simp [Go.RowKit.intOf]; omega
          · have hin : i = nS := by omega
            subst hin
            go_wp2_with fail
            go_roundw
            case rel => exact ⟨k + 1, l', fl', fq', by omega, by go_num, I6.out, P4.out⟩
            case measure => simp [Go.RowKit.intOf]; omega
    · have hkm : k = n2 := by omega
      subst hkm
      have HB := Lib.hid hI.c.b
      clear hI hP
      go_wp2_with (go_at_call 8; refine (alive15_any _).mono ?_; rintro e w9 ⟨rfl, hb9⟩; have B9 := Lib.hid (HB.out.trans (hb9.mono HB.out.size)); clear hb9)
      go_ret
      exact ⟨rfl, B9.out⟩
end Sha
end Go.Proofs.Yteiffdccfmfdbaa
