/- The program's tree: Whole. -/
import Derived.Test.YtajdpbbbocnfiaaDoorBx38
import Derived.Test.YtajdpbbbocnfiaaDoorBx39
import Derived.Test.YtajdpbbbocnfiaaDoorBx21
import Derived.Test.YtajdpbbbocnfiaaDoorBx26
import Derived.Test.YtajdpbbbocnfiaaDoorBx08
namespace Go.Proofs.YtajdpbbbocnfiaaDoor
namespace Sha
open Go.RowKit Mem
set_option maxRecDepth 100000
theorem infoSl14 : (Tryd.prog.info? 41).map (·.size) = some 1 := by kernel_rfl
set_option maxHeartbeats 8000000 in
theorem pwhole14_any {F : Foot} {b : Nat} {s : St6} (key : List (BitVec 8)) (p : Nat) (root : RefV) (w : World) (hT : TT w) (lk : key.length = 32) (hp : PSt F b w s) (hok : Ok6 1000 s) (hw0 : s.w = []) (h0 : 1 ≤ p) (h1 : p ≤ 216) (hrw : root.Wf) :
    Calls Tryd.prog 9 #[.pointer none, rq b, .agg (u8s key).toArray, .agg (psC p), .agg (refC root)] w (WhEnd w (wholeT s.b key p root)) := by
  have hit := itn_big p h0 h1
  have itm := fun wx => pitems_any p wx h1
  have rot := fun wx => proot_any p wx h1
  have pgs := fun wx => ppages_any p wx
  have kds := fun (i : Nat) wx (hi : p ≤ i) (hl : i < itn p) => by
    have h := pkids_own p (i : Int) wx h1
    rw [kidsZ_node hi hl] at h
    exact h
  have fk0 := fun (i : Nat) (r : RefV) wx (h : Below w.heap.size w wx) (hr : r.Wf) => pfetchKids_own key p (i : Int) r wx (hT.below h) lk (pst_below hp h) hok hw0 h1 hr
  have ft0 := fun (i : Nat) (r : RefV) wx (h : Below w.heap.size w wx) (hr : r.Wf) => pfetch14_any key p (i : Int) r wx (hT.below h) lk (pst_below hp h) hok hw0 h1 hr
  have hwf := fun k => wholeG_wf (B := s.b) (key := key) (p := p) hrw k
  -- the state in terms of how many are left
  obtain ⟨m, hm⟩ : ∃ m, m = itn p := ⟨_, rfl⟩
  obtain ⟨ok, hokf⟩ : ∃ f : Nat → Int, f = fun n => (wholeG s.b key p root (m - n)).2.2 := ⟨_, rfl⟩
  obtain ⟨WR, hWR⟩ : ∃ f : Nat → List RefV, f = fun n => (wholeG s.b key p root (m - n)).1 := ⟨_, rfl⟩
  obtain ⟨WP, hWP⟩ : ∃ f : Nat → List (List (BitVec 8)), f = fun n => (wholeG s.b key p root (m - n)).2.1 := ⟨_, rfl⟩
  obtain ⟨hd, hhd⟩ : ∃ f : Nat → RefV, f = fun n => (WR n).getD (n - 1) zref := ⟨_, rfl⟩
  obtain ⟨fk2, hfk2⟩ : ∃ f : Nat → List RefV × Int, f = fun n => fkT s.b key p ((n - 1 : Nat) : Int) (hd n) := ⟨_, rfl⟩
  obtain ⟨ft2, hft2⟩ : ∃ f : Nat → List (BitVec 8) × Int, f = fun n => fetchT s.b key p ((n - 1 : Nat) : Int) (hd n) := ⟨_, rfl⟩
  have rw0 : (List.replicate m zref).set (m - 1) root = WR m := by
    rw [hWR]; show _ = (wholeG s.b key p root (m - m)).1; rw [Nat.sub_self]
    show _ = List.replicate (itn p - 1) zref ++ [root]
    rw [← hm, show m = (m - 1) + 1 by omega, List.replicate_succ', List.set_append_right _ _ (by simp)]
    simp
  have ok0 : ok m = 0 := by rw [hokf]; show (wholeG s.b key p root (m - m)).2.2 = 0; rw [Nat.sub_self]; rfl
  have inv : ∀ n, n ≤ m → ok n = 0 → (WR n).length = m ∧ (WP n).length = p := fun n hn h => by
    rw [hokf] at h; rw [hWR, hWP]
    have g := whole_inv (B := s.b) (key := key) (root := root) h0 h1 (m - n) (by omega) h
    refine ⟨?_, g.lg⟩
    show (wholeG s.b key p root (m - n)).1.length = m
    rw [g.lr, hm]
  have rwf : ∀ n, ∀ r ∈ WR n, r.Wf := fun n => by rw [hWR]; exact hwf _
  have hdw : ∀ n, (hd n).Wf := fun n => by rw [hhd]; exact getD_wf (rwf n) _
  have node : ∀ n, p < n → n ≤ m → ok n = 0 → (fk2 n).2 = 0 → ok (n - 1) = 0 ∧ laidR (WR n) (fst p (n - 1)) (fk2 n).1 = WR (n - 1) := fun n hn hl h h2 => by
    rw [hokf] at h ⊢
    rw [hfk2, hhd, hWR] at h2
    have e1 : itn p - (m - n + 1) = n - 1 := by omega
    have e2 : m - (n - 1) = m - n + 1 := by omega
    have s1 := wholeG_node (k := m - n) h (by omega)
    rw [e1] at s1
    rw [if_neg (fun x => x h2)] at s1
    refine ⟨by show (wholeG s.b key p root (m - (n - 1))).2.2 = 0; rw [e2, s1], ?_⟩
    rw [hfk2, hhd, hWR]
    show _ = (wholeG s.b key p root (m - (n - 1))).1
    rw [e2, s1]
  have nodeE : ∀ n, p < n → n ≤ m → ok n = 0 → (fk2 n).2 ≠ 0 → wholeT s.b key p root = ([], [], (fk2 n).2) := fun n hn hl h h2 => by
    rw [hokf] at h
    have e1 : itn p - (m - n + 1) = n - 1 := by omega
    have s1 := wholeG_node (k := m - n) h (by omega)
    rw [e1] at s1
    have e5 : fkT s.b key p ((n - 1 : Nat) : Int) ((wholeG s.b key p root (m - n)).1.getD (n - 1) zref) = fk2 n := by rw [hfk2, hhd, hWR]
    rw [e5, if_pos h2] at s1
    exact wholeT_err (k := m - n + 1) (by omega) (by rw [s1]) h2
  have page : ∀ n, 0 < n → n ≤ p → ok n = 0 → (ft2 n).2 = 0 → ok (n - 1) = 0 ∧ WR (n - 1) = WR n ∧ (WP n).set (n - 1) (ft2 n).1 = WP (n - 1) := fun n hn hl h h2 => by
    rw [hokf] at h ⊢
    rw [hft2, hhd, hWR] at h2
    have e1 : itn p - (m - n + 1) = n - 1 := by omega
    have e2 : m - (n - 1) = m - n + 1 := by omega
    have s1 := wholeG_page (k := m - n) h (by omega)
    rw [e1] at s1
    rw [if_neg (fun x => x h2)] at s1
    refine ⟨by show (wholeG s.b key p root (m - (n - 1))).2.2 = 0; rw [e2, s1], ?_, ?_⟩
    · rw [hWR]
      show (wholeG s.b key p root (m - (n - 1))).1 = _
      rw [e2, s1]
    · rw [hft2, hhd, hWR, hWP]
      show _ = (wholeG s.b key p root (m - (n - 1))).2.1
      rw [e2, s1]
  have pageE : ∀ n, 0 < n → n ≤ p → ok n = 0 → (ft2 n).2 ≠ 0 → wholeT s.b key p root = ([], [], (ft2 n).2) := fun n hn hl h h2 => by
    rw [hokf] at h
    have e1 : itn p - (m - n + 1) = n - 1 := by omega
    have s1 := wholeG_page (k := m - n) h (by omega)
    rw [e1] at s1
    have e5 : fetchT s.b key p ((n - 1 : Nat) : Int) ((wholeG s.b key p root (m - n)).1.getD (n - 1) zref) = ft2 n := by rw [hft2, hhd, hWR]
    rw [e5, if_pos h2] at s1
    exact wholeT_err (k := m - n + 1) (by omega) (by rw [s1]) h2
  have pg0 : ok p = 0 → WP p = List.replicate p [] := fun h => by
    rw [hokf] at h; rw [hWP]
    exact wholeG_none (m - p) (by omega) h
  have fin : ok 0 = 0 → wholeT s.b key p root = (WR 0, WP 0, 0) := fun h => by
    rw [hokf] at h
    have h' : (wholeG s.b key p root (itn p)).2.2 = 0 := by rw [← hm]; exact h
    rw [wholeT_good h', hWR, hWP, ← hm]
    show wholeG s.b key p root m = ((wholeG s.b key p root (m - 0)).1, (wholeG s.b key p root (m - 0)).2.1, 0)
    rw [Nat.sub_zero]
    rw [← hm] at h'
    exact Prod.ext rfl (Prod.ext rfl h')
  have fkl : ∀ n, p < n → n ≤ m → (fk2 n).2 = 0 → (fk2 n).1.length = many p (n - 1) := fun n hn hl h => by
    rw [hfk2] at h ⊢
    exact fkT_len (by omega) (by omega) h
  have kid : ∀ n, p < n → n ≤ m → 1 ≤ many p (n - 1) ∧ fst p (n - 1) + many p (n - 1) ≤ n - 1 ∧ many p (n - 1) ≤ 6 := fun n hn hl => ⟨(node_kids p (n - 1) h0 h1 (by omega) (by omega)).1, (node_kids p (n - 1) h0 h1 (by omega) (by omega)).2, many_le _ _⟩
  have fkw : ∀ n, ∀ r ∈ (fk2 n).1, r.Wf := fun n => by rw [hfk2]; exact fkT_wf _ _ _ _ _
  have kds : ∀ n wx, p < n → n ≤ m → Calls Tryd.prog 26 #[.agg (psC p), .int .i64 ((n - 1 : Nat) : Int)] wx (OwnI wx (kz p (n - 1) (many p (n - 1)))) := fun n wx hn hl => kds (n - 1) wx (by omega) (by omega)
  have fk : ∀ n wx, Below w.heap.size w wx → Calls Tryd.prog 25 #[.pointer none, rq b, .agg (u8s key).toArray, .agg (psC p), .int .i64 ((n - 1 : Nat) : Int), .agg (refC (hd n))] wx (RfOwn 32 wx (fk2 n).1 (fk2 n).2) := fun n wx h => by rw [hfk2]; exact fk0 (n - 1) (hd n) wx h (hdw n)
  have ft : ∀ n wx, Below w.heap.size w wx → Calls Tryd.prog 27 #[.pointer none, rq b, .agg (u8s key).toArray, .agg (psC p), .int .i64 ((n - 1 : Nat) : Int), .agg (refC (hd n))] wx (FtEnd wx (ft2 n).1 (ft2 n).2) := fun n wx h => by rw [hft2]; exact ft0 (n - 1) (hd n) wx h (hdw n)
  clear fk0 ft0
  have hdg : ∀ n, (WR n).getD (n - 1) zref = hd n := fun n => by rw [hhd]
  have kzl : ∀ n, (kz p (n - 1) (many p (n - 1))).length = many p (n - 1) := fun n => kz_length _ _ _
  have kzg : ∀ n t, t < many p (n - 1) → (kz p (n - 1) (many p (n - 1))).getD t 0 = ((fst p (n - 1) + t : Nat) : Int) := fun n t ht => kz_get _ _ _ _ ht
  obtain ⟨Y, hY⟩ : ∃ Y, Y = wholeT s.b key p root := ⟨_, rfl⟩
  rw [← hY] at nodeE pageE fin ⊢
  obtain ⟨mn, hmn⟩ : ∃ f : Nat → Nat, f = fun n => many p (n - 1) := ⟨_, rfl⟩
  obtain ⟨fs, hfs⟩ : ∃ f : Nat → Nat, f = fun n => fst p (n - 1) := ⟨_, rfl⟩
  obtain ⟨kzn, hkzn⟩ : ∃ f : Nat → List Int, f = fun n => kz p (n - 1) (many p (n - 1)) := ⟨_, rfl⟩
  have kds : ∀ n wx, p < n → n ≤ m → Calls Tryd.prog 26 #[.agg (psC p), .int .i64 ((n - 1 : Nat) : Int)] wx (OwnI wx (kzn n)) := fun n wx hn hl => by rw [hkzn]; exact kds n wx hn hl
  have kzl : ∀ n, (kzn n).length = mn n := fun n => by rw [hkzn, hmn]; exact kzl n
  have kzg : ∀ n t, t < mn n → (kzn n).getD t 0 = ((fs n + t : Nat) : Int) := fun n t ht => by rw [hkzn, hfs]; rw [hmn] at ht; exact kzg n t ht
  have node : ∀ n, p < n → n ≤ m → ok n = 0 → (fk2 n).2 = 0 → ok (n - 1) = 0 ∧ laidR (WR n) (fs n) (fk2 n).1 = WR (n - 1) := fun n a c d e => by rw [hfs]; exact node n a c d e
  have fkl : ∀ n, p < n → n ≤ m → (fk2 n).2 = 0 → (fk2 n).1.length = mn n := fun n a c d => by rw [hmn]; exact fkl n a c d
  have kid : ∀ n, p < n → n ≤ m → 1 ≤ mn n ∧ fs n + mn n ≤ n - 1 ∧ mn n ≤ 6 := fun n a c => by rw [hmn, hfs]; exact kid n a c
  rw [← hm] at itm rot hit
  have hro : (m : Int) - 1 = ((m - 1 : Nat) : Int) := by omega
  rw [hro] at rot
  obtain ⟨i2, hi2, hz2, hs2, hb2⟩ := info_parts elemRP.2
  have rs := refC_size hrw; have ro := refC_one root
  obtain ⟨M, hM⟩ : ∃ M, M = refC root := ⟨_, rfl⟩
  have hrm : refL root = M.toList := by rw [hM]; rfl
  have kc : (u8s key).toArray.size = 32 := by simp [u8s_length, lk]
  obtain ⟨KC, hKC⟩ : ∃ K, K = (u8s key).toArray := ⟨_, rfl⟩
  have cs : (psC p).size = 1 := rfl
  obtain ⟨C, hC⟩ : ∃ C, C = psC p := ⟨_, rfl⟩
  rw [← hM] at rs ro ⊢
  rw [← hKC] at kc ft fk ⊢
  rw [← hC] at itm rot pgs kds ft fk cs ⊢
  have a0 : At (((w.alloc (.cells KC 22)).alloc (.cells C 30)).alloc (.cells M 32)) w.heap.size KC 22 := ((at_new w KC _).alloc _).alloc _
  have a1 : At (((w.alloc (.cells KC 22)).alloc (.cells C 30)).alloc (.cells M 32)) (w.heap.size + 1) C 30 := by
    have h := (at_new (w.alloc (.cells KC 22)) C 30).alloc (.cells M 32)
    simpa using h
  have a2 : At (((w.alloc (.cells KC 22)).alloc (.cells C 30)).alloc (.cells M 32)) (w.heap.size + 1 + 1) M 32 := by
    have h := at_new ((w.alloc (.cells KC 22)).alloc (.cells C 30)) M 32
    simpa using h
  have b4 : Below w.heap.size w (((w.alloc (.cells KC 22)).alloc (.cells C 30)).alloc (.cells M 32)) := (((Below.refl _ _).alloc (Nat.le_refl _) _).alloc (by simp) _).alloc (by simp; omega) _
  have kds : ∀ (i : Nat) wx, p ≤ i → i < m → Calls Tryd.prog 26 #[.agg C, .int .i64 (i : Int)] wx (OwnI wx (kzn (i + 1))) := fun i wx a c => kds (i + 1) wx (by omega) (by omega)
  have fk : ∀ (i : Nat) wx, Below w.heap.size w wx → Calls Tryd.prog 25 #[.pointer none, rq b, .agg KC, .agg C, .int .i64 (i : Int), .agg (refC (hd (i + 1)))] wx (RfOwn 32 wx (fk2 (i + 1)).1 (fk2 (i + 1)).2) := fun i wx h => fk (i + 1) wx h
  have ft : ∀ (i : Nat) wx, Below w.heap.size w wx → Calls Tryd.prog 27 #[.pointer none, rq b, .agg KC, .agg C, .int .i64 (i : Int), .agg (refC (hd (i + 1)))] wx (FtEnd wx (ft2 (i + 1)).1 (ft2 (i + 1)).2) := fun i wx h => ft (i + 1) wx h
  have node : ∀ i, p ≤ i → i < m → ok (i + 1) = 0 → (fk2 (i + 1)).2 = 0 → ok i = 0 ∧ laidR (WR (i + 1)) (fs (i + 1)) (fk2 (i + 1)).1 = WR i := fun i a c d e => node (i + 1) (by omega) (by omega) d e
  have page : ∀ i, i < p → ok (i + 1) = 0 → (ft2 (i + 1)).2 = 0 → ok i = 0 ∧ WR i = WR (i + 1) ∧ (WP (i + 1)).set i (ft2 (i + 1)).1 = WP i := fun i a c d => page (i + 1) (by omega) (by omega) c d
  have hdg : ∀ i, (WR (i + 1)).getD i zref = hd (i + 1) := fun i => hdg (i + 1)
  have kid : ∀ i, p ≤ i → i < m → 1 ≤ mn (i + 1) ∧ fs (i + 1) + mn (i + 1) ≤ i ∧ mn (i + 1) ≤ 6 := fun i a c => kid (i + 1) (by omega) (by omega)
  unfold WhEnd
  have IT := Lib.hid itm; have RT := Lib.hid rot; have PG := Lib.hid pgs; have KD := Lib.hid kds; have FK := Lib.hid fk; have FTH := Lib.hid ft; have RW0 := Lib.hid rw0; have OK0 := Lib.hid ok0; have INV := Lib.hid inv; have RWF := Lib.hid rwf; have HDW := Lib.hid hdw; have ND := Lib.hid node; have NE := Lib.hid nodeE; have PD := Lib.hid page; have PE := Lib.hid pageE; have PG0 := Lib.hid pg0; have FIN := Lib.hid fin; have FKL := Lib.hid fkl; have KID := Lib.hid kid; have FKW := Lib.hid fkw; have HDG := Lib.hid hdg; have KZL := Lib.hid kzl; have KZG := Lib.hid kzg
  have I2 := Lib.hid hi2; have Z2 := Lib.hid hz2; have S2 := Lib.hid hs2; have B2 := Lib.hid hb2; have RS := Lib.hid rs; have RO := Lib.hid ro; have HM := Lib.hid hrm; have KS := Lib.hid kc; have CS := Lib.hid cs; have RWF0 := Lib.hid hrw
  have A0 := Lib.hid a0; have A1 := Lib.hid a1; have A2 := Lib.hid a2; have B4 := Lib.hid b4
  clear itm rot pgs kds fk ft rw0 ok0 inv rwf hdw node nodeE page pageE pg0 fin fkl kid fkw hdg kzl kzg hi2 hz2 hs2 hb2 rs ro hrm kc cs hrw a0 a1 a2 b4
  clear hM hKC hC hY hmn hfs hkzn hm hokf hWR hWP hhd hfk2 hft2 hT lk hp hok hw0 hwf hro
  go_enter Tryd.func9, Tryd.ntmps9
  go_upto_region 1 with fail
  generalize ((w.alloc (.cells KC 22)).alloc (.cells C 30)).alloc (.cells M 32) = w4 at *
  have hm0 : ¬ (m : Int) = 0 := by omega
  have hm2 : ¬ (0 : Int) = (m : Int) := by omega
  go_wp2_with (refine wpList_load_all (by rfl) 30 _ (by rfl) (w.heap.size + 1) (by rfl) _ Tryd.underlying30 (by rfl) C _ A1.out (by rw [CS.out]; exact infoPS) ?_)
  refine (IT.out _).mono ?_
  rintro e w5 ⟨rfl, hb5⟩
  have B5 := Lib.hid (B4.out.trans (hb5.mono B4.out.size)); have A05 := Lib.hid (A0.out.below hb5 A0.out.lt); have A15 := Lib.hid (A1.out.below hb5 A1.out.lt); have A25 := Lib.hid (A2.out.below hb5 A2.out.lt)
  clear hb5 A0 A1 A2 B4
  go_wp2_with (refine wpList_load_all (by rfl) 30 _ (by rfl) (w.heap.size + 1) (by rfl) _ Tryd.underlying30 (by rfl) C _ A15.out (by rw [CS.out]; exact infoPS) ?_)
  refine (IT.out _).mono ?_
  rintro e w6 ⟨rfl, hb6⟩
  have B6 := Lib.hid (B5.out.trans (hb6.mono B5.out.size)); have A06 := Lib.hid (A05.out.below hb6 A05.out.lt); have A16 := Lib.hid (A15.out.below hb6 A15.out.lt); have A26 := Lib.hid (A25.out.below hb6 A25.out.lt)
  clear hb6 A05 A15 A25 B5 hm0 hm2
  go_upto_region 4 with (refine wpList_make_full _ (by rfl) _ _ 35 (by rfl) w6.heap.size 32 i2 (.agg (refC zref)) 34 Tryd.underlying35 I2.out Z2.out S2.out .i64 .i64 (m : Int) (m : Int) m (by rfl) (by rfl) (by rfl) (by rfl) (by rw [B2.out]; omega) (by simp [maxLen]; omega) (Nat.le_refl _) ?_; intro w7 ho7 hg7; have O7 := Lib.hid ho7; have B7 : Hid (Below w6.heap.size w6 w7) := Lib.hid ((Below.refl _ _).grown hg7 (Nat.le_refl _) (fun k e => by cases e)); clear ho7 hg7)
  have o7 : OwnRf w7 w6.heap.size 32 (.slice (some ⟨w6.heap.size, 0, none⟩) m m) (List.replicate m zref) := by
    have h := O7.out
    rw [made_refs] at h
    show w7.ownsRow _ _ _ _ (List.replicate m zref).length _
    rw [List.length_replicate]
    exact h
  obtain ⟨g, hg⟩ : ∃ g, g = w6.heap.size := ⟨_, rfl⟩
  have HG := Lib.hid hg
  have O8 : Hid (OwnRf w7 w6.heap.size 32 (.slice (some ⟨g, 0, none⟩) m m) (List.replicate m zref)) := Lib.hid (by rw [hg]; exact o7)
  have A07 := Lib.hid (A06.out.below B7.out A06.out.lt); have A17 := Lib.hid (A16.out.below B7.out A16.out.lt); have A27 := Lib.hid (A26.out.below B7.out A26.out.lt)
  rw [← hg]
  clear hg o7 O7
  -- the root's reference
  have GL : Hid (g < w7.heap.size) := Lib.hid (World.ownsRow.lt O8.out g rfl).2
  have LB : Hid (w.heap.size + 1 + 1 < w6.heap.size) := Lib.hid A26.out.lt
  go_upto_region 4 with fail
  refine wp_region_plan_in (fun y => At y (w.heap.size + 1) C 30 ∧ At y (w.heap.size + 1 + 1) M 32) (.take 0 (.take 1 (.take 3 (.sole 2 (.take 4 (.sole 5 .done)))))) (by kernel_rfl) (by kernel_rfl) (by kernel_rfl) ⟨A17.out.drew, A27.out.drew⟩ ?_
  (first | (refine plan_move _ _ (by rfl) (by rfl) (.inl (by rfl)) Mem.ev_a ?_) | (refine plan_move _ _ (by rfl) (by rfl) (.inr (by rfl)) Mem.ev_a ?_) | (refine plan_pick_t _ _ _ _ (by rfl) (by rfl) (by rfl) Mem.ev_a Mem.ev_a ?_) | (refine plan_pick_f _ _ _ _ (by rfl) (by rfl) (by rfl) Mem.ev_a Mem.ev_a ?_))
  (simp only [Act.put, List.setIfInBounds_toArray, List.set_cons_zero, List.set_cons_succ])
  refine plan_row 30 _ (w.heap.size + 1) _ C 30 (by rfl) (by rfl) (by rfl) Mem.ev_a (fun w' hw' => hw'.1) Tryd.underlying30 (by rfl) (by rw [CS.out]; exact infoPS) ?_
  (simp only [Act.put, List.setIfInBounds_toArray, List.set_cons_zero, List.set_cons_succ])
  refine plan_row 32 _ (w.heap.size + 1 + 1) _ M 32 (by rfl) (by rfl) (by rfl) Mem.ev_a (fun w' hw' => hw'.2) Tryd.underlying32 (by rfl) (by rw [RS.out]; exact infoRfP) ?_
  (simp only [Act.put, List.setIfInBounds_toArray, List.set_cons_zero, List.set_cons_succ])
  refine plan_call 23 _ _ _ (by kernel_rfl) (by rfl) (by rfl) (by rfl) (by first | exact Mem.ev_none _ | (simp only [List.map_toArray, List.map_cons, List.map_nil, Mem.ev_tmp, List.getD_cons_succ, List.getD_cons_zero] <;> rfl)) ?_
  refine (RT.out w7.drew).mono ?_
  rintro e w8 ⟨rfl, hb8⟩
  have Q8 : Hid (Below w7.heap.size w7 w8) := Lib.hid (((Below.refl _ _).drew).trans (hb8.mono (Nat.le_refl _)))
  have A08 := Lib.hid (A07.out.below Q8.out A07.out.lt); have A18 := Lib.hid (A17.out.below Q8.out A17.out.lt); have A28 := Lib.hid (A27.out.below Q8.out A27.out.lt)
  have B8 : Hid (Below w6.heap.size w6 w8) := Lib.hid (B7.out.trans (Q8.out.mono B7.out.size))
  clear hb8
  refine ⟨_, rfl, ⟨A18.out, A28.out⟩, ?_⟩
  (simp only [Act.put, List.setIfInBounds_toArray, List.set_cons_zero, List.set_cons_succ])
  refine plan_index_z 35 32 _ _ g 0 m m 34 (m - 1) (by rfl) (by rfl) (by rfl) Mem.ev_a Mem.ev_a (by omega) Tryd.underlying35 infoRfP ?_
  (simp only [Act.put, List.setIfInBounds_toArray, List.set_cons_zero, List.set_cons_succ])
  have o9 : OwnRf w8 w6.heap.size 32 (.slice (some ⟨g, 0, none⟩) m m) (List.replicate m zref) := ownsRow_below O8.out Q8.out
  obtain ⟨g', cap', cur, ev, hgB, hgl, hcur, hfit, hown⟩ := own_store (i := m - 1) o9 (fun r hr => by rw [List.eq_of_mem_replicate hr]; exact zref_wf) RWF0.out (by simp; omega)
  injection ev with ev1 ev2 ev3
  injection ev1 with ev1
  injection ev1 with ev1 _ _
  subst ev1
  clear ev2 ev3
  rw [RW0.out, HM.out] at hown
  have OWN := Lib.hid hown
  have hne : w.heap.size + 1 + 1 ≠ g := by have := LB.out; have := HG.out; omega
  have hne1 : w.heap.size + 1 ≠ g := by have := LB.out; have := HG.out; omega
  have hne0 : w.heap.size ≠ g := by have := LB.out; have := HG.out; omega
  refine plan_store_at 32 _ _ g (0 + (m - 1) * 34) M cur (Mem.splice cur ((m - 1) * 34) M.toList) 32 (by rfl) (by rfl) (by rfl) (by rfl) Mem.ev_a Mem.ev_a (by rw [RS.out]; exact infoRfP) hcur (by rw [RS.out, Nat.zero_add]; exact hfit) RO.out (by rw [Nat.zero_add]) ⟨A18.out.row_other _ hne1, A28.out.row_other _ hne⟩ ?_
  refine plan_nil ?_
  have B9 : Hid (Below w6.heap.size w6 (w8.setRow g (Mem.splice cur ((m - 1) * 34) M.toList))) := Lib.hid (below_row B8.out hgB _)
  have A09 : Hid (At (w8.setRow g (Mem.splice cur ((m - 1) * 34) M.toList)) w.heap.size KC 22) := Lib.hid (A08.out.row_other _ hne0)
  have A19 : Hid (At (w8.setRow g (Mem.splice cur ((m - 1) * 34) M.toList)) (w.heap.size + 1) C 30) := Lib.hid (A18.out.row_other _ hne1)
  generalize w8.setRow g (Mem.splice cur ((m - 1) * 34) M.toList) = w9 at *
  clear o9 hgB hgl hcur hfit hown hne hne1 hne0 A07 A17 A27 A08 A18 A28 Q8 B8 B7 O8 GL
  go_wp2_with (refine wpList_load_all (by rfl) 30 _ (by rfl) (w.heap.size + 1) (by rfl) _ Tryd.underlying30 (by rfl) C _ A19.out (by rw [CS.out]; exact infoPS) ?_)
  refine (RT.out _).mono ?_
  rintro e w10 ⟨rfl, hb10⟩
  have B10 : Hid (Below w6.heap.size w6 w10) := Lib.hid (B9.out.trans (hb10.mono B9.out.size))
  have O10 : Hid (OwnRf w10 w6.heap.size 32 (.slice (some ⟨g, 0, none⟩) m m) (WR m)) := Lib.hid (ownsRow_below OWN.out hb10)
  clear hb10 OWN B9 A09 A19
  obtain ⟨i0, hi0⟩ : ∃ i, i = m - 1 := ⟨_, rfl⟩
  have hi01 : i0 + 1 = m := by omega
  have HI0 := Lib.hid hi01
  rw [← hi0]
  clear hi0 hi01
  go_wp2_with fail
  go_loopw [14] (fun vi wr => ∃ i : Nat, p ≤ i + 1 ∧ i + 1 ≤ m ∧ vi = .int .i64 (i : Int) ∧ ok (i + 1) = 0 ∧ OwnRf wr w6.heap.size 32 (.slice (some ⟨g, 0, none⟩) m m) (WR (i + 1)) ∧ Below w6.heap.size w6 wr) (fun vi _ => (intOf vi).toNat)
  case atStart => exact ⟨i0, by have := HI0.out; omega, by have := HI0.out; omega, rfl, by rw [HI0.out]; exact OK0.out, by rw [HI0.out]; exact O10.out, B10.out⟩
  case round =>
    clear O10 B10 HI0
    obtain ⟨i, hpi, him, rfl, hk0, ho, hbw⟩ := hrel
    have OW := Lib.hid ho; have BW := Lib.hid hbw; have OK := Lib.hid hk0
    have A0W := Lib.hid (A06.out.below hbw A06.out.lt); have A1W := Lib.hid (A16.out.below hbw A16.out.lt)
    clear ho hbw hk0
    go_wp2_with (refine wpList_load_all (by rfl) 30 _ (by rfl) (w.heap.size + 1) (by rfl) _ Tryd.underlying30 (by rfl) C _ A1W.out (by rw [CS.out]; exact infoPS) ?_)
    refine (PG.out _).mono ?_
    rintro e w11 ⟨rfl, hb11⟩
    have O11 : Hid (OwnRf w11 w6.heap.size 32 (.slice (some ⟨g, 0, none⟩) m m) (WR (i + 1))) := Lib.hid (ownsRow_below OW.out hb11)
    have B11 : Hid (Below w6.heap.size w6 w11) := Lib.hid (BW.out.trans (hb11.mono BW.out.size)); have A01 := Lib.hid (A0W.out.below hb11 A0W.out.lt); have A11 := Lib.hid (A1W.out.below hb11 A1W.out.lt)
    clear hb11 OW BW A0W A1W
    have BX : Hid (Below w.heap.size w w11) := Lib.hid (B6.out.trans (B11.out.mono B6.out.size))
    obtain ⟨hl1, hl2⟩ := INV.out (i + 1) him OK.out
    have HL1 := Lib.hid hl1; have HL2 := Lib.hid hl2
    clear hl1 hl2
    by_cases hge : p ≤ i
    · have hge2 : (p : Int) ≤ (i : Int) := by omega
      have hdr : ∀ y, Below w11.heap.size w11 y → y.rangeAt g (0 + i * 34) (refL (hd (i + 1))) := fun y hy => by
        have h := slrf_cell (i := i) ((own_slrf O11.out (RWF.out _)).below hy) HL1.out.symm (by omega)
        rw [HDG.out] at h
        exact h
      have hfk := FK.out i w11.drew ((BX.out).drew)
      have her := NE.out (i + 1) (by omega) him OK.out
      have hnd := ND.out i hge (by omega) OK.out
      have hfl := FKL.out (i + 1) (by omega) him
      have hfw := FKW.out (i + 1)
      obtain ⟨k1, k2, k3⟩ := KID.out i hge (by omega)
      have hds := refC_size (HDW.out (i + 1))
      obtain ⟨HM1, hHM1⟩ : ∃ m, m = refC (hd (i + 1)) := ⟨_, rfl⟩
      have hdm : refL (hd (i + 1)) = HM1.toList := by rw [hHM1]; rfl
      rw [← hHM1] at hfk hds
      rw [hdm] at hdr
      obtain ⟨kL, e, hke⟩ : ∃ a c, fk2 (i + 1) = (a, c) := ⟨_, _, rfl⟩
      rw [hke] at hfk her hnd hfl hfw
      simp only at hfk her hnd hfl hfw
      obtain ⟨c, hc⟩ : ∃ c, c = mn (i + 1) := ⟨_, rfl⟩
      obtain ⟨f, hf⟩ : ∃ f, f = fs (i + 1) := ⟨_, rfl⟩
      rw [← hc] at hfl k1 k2 k3
      rw [← hf] at hnd k2
      have hkd := KD.out i
      have hkzl := KZL.out (i + 1)
      have hkzg := KZG.out (i + 1)
      rw [← hc] at hkzl hkzg
      rw [← hf] at hkzg
      obtain ⟨KZ1, hKZ1⟩ : ∃ K, K = kzn (i + 1) := ⟨_, rfl⟩
      rw [← hKZ1] at hkd hkzl hkzg
      have FKI := Lib.hid hfk; have ERI := Lib.hid her; have NDI := Lib.hid hnd; have FLI := Lib.hid hfl; have FWI := Lib.hid hfw; have HDS := Lib.hid hds; have HDR := Lib.hid hdr; have KDI := Lib.hid (fun wx => hkd wx hge (by omega)); have KZLI := Lib.hid hkzl; have KZGI := Lib.hid hkzg
      clear hfk her hnd hfl hfw hds hdm hdr hHM1 hke hkd hkzl hkzg hKZ1 hc hf
      go_upto_region 8 with fail
      have D0 : Hid (Below w11.heap.size w11 w11.drew) := Lib.hid (Below.refl _ _).drew
      refine wp_region_plan_in (fun y => Below w11.heap.size w11 y) (.take 0 (.take 1 (.take 2 (.take 3 (.take 4 (.take 5 (.take 6 (.take 7 (.take 8 (.sole 9 (.take 10 (.take 11 (.take 12 (.take 13 (.take 14 .done))))))))))))))) (by kernel_rfl) (by kernel_rfl) (by kernel_rfl) D0.out ?_
      (first | (refine plan_move _ _ (by rfl) (by rfl) (.inl (by rfl)) Mem.ev_a ?_) | (refine plan_move _ _ (by rfl) (by rfl) (.inr (by rfl)) Mem.ev_a ?_) | (refine plan_pick_t _ _ _ _ (by rfl) (by rfl) (by rfl) Mem.ev_a Mem.ev_a ?_) | (refine plan_pick_f _ _ _ _ (by rfl) (by rfl) (by rfl) Mem.ev_a Mem.ev_a ?_))
      (simp only [Act.put, List.setIfInBounds_toArray, List.set_cons_zero, List.set_cons_succ])
      (first | (refine plan_move _ _ (by rfl) (by rfl) (.inl (by rfl)) Mem.ev_a ?_) | (refine plan_move _ _ (by rfl) (by rfl) (.inr (by rfl)) Mem.ev_a ?_) | (refine plan_pick_t _ _ _ _ (by rfl) (by rfl) (by rfl) Mem.ev_a Mem.ev_a ?_) | (refine plan_pick_f _ _ _ _ (by rfl) (by rfl) (by rfl) Mem.ev_a Mem.ev_a ?_))
      (simp only [Act.put, List.setIfInBounds_toArray, List.set_cons_zero, List.set_cons_succ])
      refine plan_row 22 _ w.heap.size _ KC 22 (by rfl) (by rfl) (by rfl) Mem.ev_a (fun w' hw' => A01.out.below hw' A01.out.lt) Tryd.underlying22 (by rfl) (by rw [KS.out]; kernel_rfl) ?_
      (simp only [Act.put, List.setIfInBounds_toArray, List.set_cons_zero, List.set_cons_succ])
      refine plan_row 30 _ (w.heap.size + 1) _ C 30 (by rfl) (by rfl) (by rfl) Mem.ev_a (fun w' hw' => A11.out.below hw' A11.out.lt) Tryd.underlying30 (by rfl) (by rw [CS.out]; exact infoPS) ?_
      (simp only [Act.put, List.setIfInBounds_toArray, List.set_cons_zero, List.set_cons_succ])
      (first | (refine plan_move _ _ (by rfl) (by rfl) (.inl (by rfl)) Mem.ev_a ?_) | (refine plan_move _ _ (by rfl) (by rfl) (.inr (by rfl)) Mem.ev_a ?_) | (refine plan_pick_t _ _ _ _ (by rfl) (by rfl) (by rfl) Mem.ev_a Mem.ev_a ?_) | (refine plan_pick_f _ _ _ _ (by rfl) (by rfl) (by rfl) Mem.ev_a Mem.ev_a ?_))
      (simp only [Act.put, List.setIfInBounds_toArray, List.set_cons_zero, List.set_cons_succ])
      (first | (refine plan_move _ _ (by rfl) (by rfl) (.inl (by rfl)) Mem.ev_a ?_) | (refine plan_move _ _ (by rfl) (by rfl) (.inr (by rfl)) Mem.ev_a ?_) | (refine plan_pick_t _ _ _ _ (by rfl) (by rfl) (by rfl) Mem.ev_a Mem.ev_a ?_) | (refine plan_pick_f _ _ _ _ (by rfl) (by rfl) (by rfl) Mem.ev_a Mem.ev_a ?_))
      (simp only [Act.put, List.setIfInBounds_toArray, List.set_cons_zero, List.set_cons_succ])
      (first | (refine plan_move _ _ (by rfl) (by rfl) (.inl (by rfl)) Mem.ev_a ?_) | (refine plan_move _ _ (by rfl) (by rfl) (.inr (by rfl)) Mem.ev_a ?_) | (refine plan_pick_t _ _ _ _ (by rfl) (by rfl) (by rfl) Mem.ev_a Mem.ev_a ?_) | (refine plan_pick_f _ _ _ _ (by rfl) (by rfl) (by rfl) Mem.ev_a Mem.ev_a ?_))
      (simp only [Act.put, List.setIfInBounds_toArray, List.set_cons_zero, List.set_cons_succ])
      refine plan_index_z 35 32 _ _ g 0 m m 34 i (by rfl) (by rfl) (by rfl) Mem.ev_a Mem.ev_a (by omega) Tryd.underlying35 infoRfP ?_
      (simp only [Act.put, List.setIfInBounds_toArray, List.set_cons_zero, List.set_cons_succ])
      refine plan_load_range 32 _ g (0 + i * 34) _ HM1 (by rfl) (by rfl) (by rfl) Mem.ev_a (fun w' hw' => HDR.out w' hw') Tryd.underlying32 (by rfl) (by rw [HDS.out]; exact infoRfP) ?_
      (simp only [Act.put, List.setIfInBounds_toArray, List.set_cons_zero, List.set_cons_succ])
      refine plan_call 25 _ _ _ (by kernel_rfl) (by rfl) (by rfl) (by rfl) (by first | exact Mem.ev_none _ | (simp only [List.map_toArray, List.map_cons, List.map_nil, Mem.ev_tmp, List.getD_cons_succ, List.getD_cons_zero] <;> rfl)) ?_
      refine (FKI.out).mono ?_
      rintro o8 w12 ⟨vk8, rfl, hr8, hb8⟩
      have R12 : Hid (OwnRf w12 w11.heap.size 32 vk8 kL) := Lib.hid hr8
      have Q12 : Hid (Below w11.heap.size w11 w12) := Lib.hid (D0.out.trans (hb8.mono (Nat.le_refl _)))
      clear hr8 hb8
      refine ⟨_, rfl, Q12.out, ?_⟩
      (simp only [Act.put, List.setIfInBounds_toArray, List.set_cons_zero, List.set_cons_succ])
      (first | (refine plan_move _ _ (by rfl) (by rfl) (.inl (by rfl)) Mem.ev_a ?_) | (refine plan_move _ _ (by rfl) (by rfl) (.inr (by rfl)) Mem.ev_a ?_) | (refine plan_pick_t _ _ _ _ (by rfl) (by rfl) (by rfl) Mem.ev_a Mem.ev_a ?_) | (refine plan_pick_f _ _ _ _ (by rfl) (by rfl) (by rfl) Mem.ev_a Mem.ev_a ?_))
      (simp only [Act.put, List.setIfInBounds_toArray, List.set_cons_zero, List.set_cons_succ])
      refine plan_extract _ 0 _ _ (by rfl) (by rfl) (by rfl) Mem.ev_a (by rfl) ?_
      (simp only [Act.put, List.setIfInBounds_toArray, List.set_cons_zero, List.set_cons_succ])
      refine plan_extract _ 1 _ _ (by rfl) (by rfl) (by rfl) Mem.ev_a (by rfl) ?_
      (simp only [Act.put, List.setIfInBounds_toArray, List.set_cons_zero, List.set_cons_succ])
      (first | (refine plan_move _ _ (by rfl) (by rfl) (.inl (by rfl)) Mem.ev_a ?_) | (refine plan_move _ _ (by rfl) (by rfl) (.inr (by rfl)) Mem.ev_a ?_) | (refine plan_pick_t _ _ _ _ (by rfl) (by rfl) (by rfl) Mem.ev_a Mem.ev_a ?_) | (refine plan_pick_f _ _ _ _ (by rfl) (by rfl) (by rfl) Mem.ev_a Mem.ev_a ?_))
      (simp only [Act.put, List.setIfInBounds_toArray, List.set_cons_zero, List.set_cons_succ])
      (first | (refine plan_move _ _ (by rfl) (by rfl) (.inl (by rfl)) Mem.ev_a ?_) | (refine plan_move _ _ (by rfl) (by rfl) (.inr (by rfl)) Mem.ev_a ?_) | (refine plan_pick_t _ _ _ _ (by rfl) (by rfl) (by rfl) Mem.ev_a Mem.ev_a ?_) | (refine plan_pick_f _ _ _ _ (by rfl) (by rfl) (by rfl) Mem.ev_a Mem.ev_a ?_))
      (simp only [Act.put, List.setIfInBounds_toArray, List.set_cons_zero, List.set_cons_succ])
      refine plan_nil ?_
      have BX12 : Hid (Below w.heap.size w w12) := Lib.hid (BX.out.trans (Q12.out.mono BX.out.size))
      by_cases he : e = 0
      · subst he
        have hfl := FLI.out rfl
        obtain ⟨s1, s2⟩ := NDI.out rfl
        have S1 := Lib.hid s1; have S2' := Lib.hid s2; have HFL := Lib.hid hfl
        obtain ⟨ak8, ck8, e8⟩ := rows_hd R12.out
        rw [hfl] at e8
        subst e8
        have O12 : Hid (OwnRf w12 w6.heap.size 32 (.slice (some ⟨g, 0, none⟩) m m) (WR (i + 1))) := Lib.hid (ownsRow_below O11.out Q12.out)
        have B12 : Hid (Below w6.heap.size w6 w12) := Lib.hid (B11.out.trans (Q12.out.mono B11.out.size))
        have A12 := Lib.hid (A11.out.below Q12.out A11.out.lt)
        have GL : Hid (g < w11.heap.size) := Lib.hid (World.ownsRow.lt O11.out g rfl).2
        clear s1 s2 hfl
        go_wp2_with (refine wpList_load_all (by rfl) 30 _ (by rfl) (w.heap.size + 1) (by rfl) _ Tryd.underlying30 (by rfl) C _ A12.out (by rw [CS.out]; exact infoPS) ?_)
        refine (KDI.out _).mono ?_
        rintro e w13 ⟨vz, rfl, hz, hb13⟩
        obtain ⟨az, cz, ez, _⟩ := OwnV.open hz
        rw [iz_length, KZLI.out] at ez
        subst ez
        have Z13 : Hid (OwnV w13 w11.heap.size 3 (.slice az c cz) (iz KZ1)) := Lib.hid (ownsRow_base hz Q12.out.size)
        have R13 : Hid (OwnRf w13 w11.heap.size 32 (.slice ak8 c ck8) kL) := Lib.hid (ownsRow_below R12.out hb13)
        have O13 : Hid (OwnRf w13 w6.heap.size 32 (.slice (some ⟨g, 0, none⟩) m m) (laidR (WR (i + 1)) f (kL.take 0))) := Lib.hid (by
          rw [List.take_zero, laidR_none]
          exact ownsRow_below O12.out hb13)
        have B13 : Hid (Below w6.heap.size w6 w13) := Lib.hid (B12.out.trans (hb13.mono B12.out.size))
        clear hz hb13 O12 B12 R12 A12
        go_wp2_with fail
        go_loopw [62] (fun vt wq => ∃ t : Nat, t ≤ c ∧ vt = .int .i64 (t : Int) ∧ OwnRf wq w6.heap.size 32 (.slice (some ⟨g, 0, none⟩) m m) (laidR (WR (i + 1)) f (kL.take t)) ∧ OwnRf wq w11.heap.size 32 (.slice ak8 c ck8) kL ∧ OwnV wq w11.heap.size 3 (.slice az c cz) (iz KZ1) ∧ Below w6.heap.size w6 wq) (fun vt _ => c - (intOf vt).toNat)
        case atStart => exact ⟨0, by omega, rfl, O13.out, R13.out, Z13.out, B13.out⟩
        case round =>
          clear O13 R13 Z13 B13
          obtain ⟨t, htc, rfl, ho, hr, hz, hbq⟩ := hrel
          have OQ := Lib.hid ho; have RQ := Lib.hid hr; have ZQ := Lib.hid hz; have BQ := Lib.hid hbq
          clear ho hr hz hbq
          by_cases hlt : t < c
          · have hlt2 : (t : Int) < (c : Int) := by omega
            obtain ⟨zb, zo, ea, _, hzc⟩ := sli_at (i := t) (ownV_sli ZQ.out) KZLI.out.symm hlt
            rw [KZGI.out t hlt] at hzc
            subst ea
            obtain ⟨kb, kof, ea, hkl, hkr⟩ := slrf_at (i := t) (own_slrf RQ.out FWI.out) HFL.out.symm hlt
            subst ea
            obtain ⟨q, hq⟩ : ∃ q, q = f + t := ⟨_, rfl⟩
            rw [← hq] at hzc
            have hqm : (q : Int) < (m : Int) := by omega
            obtain ⟨rr, hrr⟩ : ∃ r, r = kL.getD t zref := ⟨_, rfl⟩
            rw [← hrr] at hkr
            have hrw : rr.Wf := by rw [hrr]; exact getD_wf FWI.out t
            have rs1 := refC_size hrw; have ro1 := refC_one rr
            obtain ⟨RM, hRM⟩ : ∃ m, m = refC rr := ⟨_, rfl⟩
            have hrm1 : refL rr = RM.toList := by rw [hRM]; rfl
            rw [← hRM] at rs1 ro1
            have hlk : kL.length = c := HFL.out
            have hset := laidR_set (R := WR (i + 1)) (f := f) (L := kL) (t := t) (by rw [HL1.out]; omega) (by omega)
            have hll := laidR_length (R := WR (i + 1)) (f := f) (L := kL.take t) (by rw [HL1.out, List.length_take]; omega)
            obtain ⟨g', cap', cur, ev, hgB, hgl, hcur, hfit, hown⟩ := own_store (i := q) OQ.out (laidR_wf (RWF.out _) fun r hr => FWI.out r (List.mem_of_mem_take hr)) hrw (by rw [hll, HL1.out]; omega)
            injection ev with ev1 ev2 ev3
            injection ev1 with ev1
            injection ev1 with ev1 _ _
            subst ev1
            clear ev2 ev3
            rw [hq, hrr, hset, ← hrr, ← hq, hrm1] at hown
            rw [hrm1] at hkr
            have hother : ∀ k, k ≠ g → (wr.setRow g (Mem.splice cur (q * 34) RM.toList)).heap[k]? = wr.heap[k]? := fun k hne => setRow_other wr g k _ hne
            have CUR := Lib.hid hcur; have FIT := Lib.hid hfit; have OWN := Lib.hid hown; have RS1 := Lib.hid rs1; have RO1 := Lib.hid ro1; have RG1 := Lib.hid hkr
            have BN : Hid (Below w6.heap.size w6 (wr.setRow g (Mem.splice cur (q * 34) RM.toList))) := Lib.hid (below_row BQ.out hgB _)
            have RN : Hid (OwnRf (wr.setRow g (Mem.splice cur (q * 34) RM.toList)) w11.heap.size 32 (.slice (some ⟨kb, kof, none⟩) c ck8) kL) := Lib.hid (ownsRow_keep RQ.out fun k hk => hother k (by have := (World.ownsRow.lt RQ.out k hk).1; have := GL.out; omega))
            have ZN : Hid (OwnV (wr.setRow g (Mem.splice cur (q * 34) RM.toList)) w11.heap.size 3 (.slice (some ⟨zb, zo, none⟩) c cz) (iz KZ1)) := Lib.hid (ownsRow_keep ZQ.out fun k hk => hother k (by have := (World.ownsRow.lt ZQ.out k hk).1; have := GL.out; omega))
            clear hkr hrr hrw rs1 ro1 hRM hrm1 hset hll hgB hgl hcur hfit hown hother hkl hlk hq
            go_wp2_with (first
              | (refine wpList_load_mid (by rfl) 32 _ (by rfl) kb (kof + t * 34) (by rfl) RM.toList _ RG1.out Tryd.underlying32 (by rfl) (by rw [infoRfP, Array.length_toList, RS1.out]) ?_; rw [Array.toArray_toList])
              | (refine wpList_store_at (by rfl) 32 _ _ (by rfl) (by rfl) g (q * 34) RM (by rfl) (by rfl) (by rw [RS1.out]; exact infoRfP) cur 32 CUR.out (by rw [RS1.out]; exact FIT.out) RO1.out ?_))
            go_roundw
            case rel => exact ⟨t + 1, by omega, by go_num, OWN.out, RN.out, ZN.out, BN.out⟩
            case measure => simp [intOf]; omega
          · have htc2 : t = c := by omega
            have hge3 : ¬ (t : Int) < (c : Int) := by omega
            have hon : OwnRf wr w6.heap.size 32 (.slice (some ⟨g, 0, none⟩) m m) (WR i) := by
              have h := OQ.out
              rw [htc2, ← HFL.out, List.take_length, S2'.out] at h
              exact h
            have ON := Lib.hid hon
            obtain ⟨j, hj⟩ : ∃ j, j + 1 = i := ⟨i - 1, by omega⟩
            have hji : (i : Int) - 1 = (j : Int) := by omega
            have HJ := Lib.hid hj
            have hjp : p ≤ j + 1 := by omega
            have hjm : j + 1 ≤ m := by omega
            clear hon hj OQ
            go_wp2_with fail
            go_roundw
            case rel => exact ⟨j, hjp, hjm, rfl, by rw [HJ.out]; exact S1.out, by rw [HJ.out]; exact ON.out, BQ.out⟩
            case measure => simp [intOf]; omega
      · have hy := ERI.out he
        have HY := Lib.hid hy
        have hne : ¬ e = 0 := he
        clear hy he
        go_wp2_with fail
        go_ret3
        exact ⟨_, _, by rw [HY.out]; rfl, by rw [HY.out]; exact SlRf.nil _, by rw [HY.out]; exact ⟨none, 0, rfl, Nat.le_refl _, fun h => absurd rfl h⟩, BX12.out⟩
    · have hip : i + 1 = p := by omega
      have hge2 : ¬ (p : Int) ≤ (i : Int) := by omega
      rw [hip] at O11
      rw [hip] at OK
      obtain ⟨i8, hi8, hz8, hs8, hb8⟩ := info_parts elemRS9.2
      have I8 := Lib.hid hi8; have Z8 := Lib.hid hz8; have S8 := Lib.hid hs8; have B8 := Lib.hid hb8
      clear hi8 hz8 hs8 hb8 HL1 HL2 hge
      go_wp2_with (refine wpList_load_all (by rfl) 30 _ (by rfl) (w.heap.size + 1) (by rfl) _ Tryd.underlying30 (by rfl) C _ A11.out (by rw [CS.out]; exact infoPS) ?_)
      refine (PG.out _).mono ?_
      rintro e w12 ⟨rfl, hb12⟩
      have O12 : Hid (OwnRf w12 w6.heap.size 32 (.slice (some ⟨g, 0, none⟩) m m) (WR p)) := Lib.hid (ownsRow_below O11.out hb12)
      have B12 : Hid (Below w6.heap.size w6 w12) := Lib.hid (B11.out.trans (hb12.mono B11.out.size)); have A02 := Lib.hid (A01.out.below hb12 A01.out.lt); have A12 := Lib.hid (A11.out.below hb12 A11.out.lt)
      have GL : Hid (g < w12.heap.size) := Lib.hid (World.ownsRow.lt O12.out g rfl).2
      clear hb12 O11 B11 A01 A11 BX
      go_upto_region 17 with (refine wpList_make_full _ (by rfl) _ _ 24 (by rfl) w12.heap.size 41 i8 (.slice none 0 0) 1 Tryd.underlying24 I8.out Z8.out S8.out .i64 .i64 (p : Int) (p : Int) p (by rfl) (by rfl) (by rfl) (by rfl) (by rw [B8.out]; omega) (by simp [maxLen]; omega) (Nat.le_refl _) ?_; intro w13 ho13 hg13; have P13 : Hid (w13.ownsRow w12.heap.size 41 1 (.slice (some ⟨w12.heap.size, 0, none⟩) p p) p (List.replicate p (.slice none 0 0))) := Lib.hid (by rw [made_none] at ho13; exact ho13); have Q13 : Hid (Below w12.heap.size w12 w13) := Lib.hid ((Below.refl _ _).grown hg13 (Nat.le_refl _) (fun k e => by cases e)); clear ho13 hg13)
      have O13 : Hid (OwnRf w13 w6.heap.size 32 (.slice (some ⟨g, 0, none⟩) m m) (WR p)) := Lib.hid (ownsRow_below O12.out Q13.out)
      have B13 : Hid (Below w6.heap.size w6 w13) := Lib.hid (B12.out.trans (Q13.out.mono B12.out.size)); have A03 := Lib.hid (A02.out.below Q13.out A02.out.lt); have A13 := Lib.hid (A12.out.below Q13.out A12.out.lt)
      obtain ⟨gp, hgp⟩ : ∃ gp, gp = w12.heap.size := ⟨_, rfl⟩
      have GP6 : Hid (w6.heap.size ≤ gp) := Lib.hid (by rw [hgp]; exact B12.out.size)
      rw [← hgp] at P13 GL ⊢
      clear hgp O12 B12 A02 A12 Q13
      go_wp2_with (refine wpList_load_all (by rfl) 30 _ (by rfl) (w.heap.size + 1) (by rfl) _ Tryd.underlying30 (by rfl) C _ A13.out (by rw [CS.out]; exact infoPS) ?_)
      refine (PG.out _).mono ?_
      rintro e w14 ⟨rfl, hb14⟩
      have O14 : Hid (OwnRf w14 w6.heap.size 32 (.slice (some ⟨g, 0, none⟩) m m) (WR p)) := Lib.hid (ownsRow_below O13.out hb14)
      have P14 : Hid (w14.ownsRow gp 41 1 (.slice (some ⟨gp, 0, none⟩) p p) p (List.replicate p (.slice none 0 0))) := Lib.hid (ownsRow_below P13.out hb14)
      have B14 : Hid (Below w6.heap.size w6 w14) := Lib.hid (B13.out.trans (hb14.mono B13.out.size))
      have E14 : Hid (Each2 (fun p q => SlB (fun _ => False) w14 p q) (List.replicate p (.slice none 0 0)) (WP p)) := Lib.hid (by rw [PG0.out OK.out]; exact each_none _ _ _)
      have OKP := Lib.hid OK.out
      clear hb14 O13 P13 B13 A03 A13
      go_wp2_with fail
      go_loopw [20] (fun vi wq => ∃ n : Nat, n ≤ p ∧ vi = .int .i64 ((n : Int) - 1) ∧ ok n = 0 ∧ OwnRf wq w6.heap.size 32 (.slice (some ⟨g, 0, none⟩) m m) (WR n) ∧ (∃ D hs, Each2 (fun p q => SlB D wq p q) hs (WP n) ∧ wq.ownsRow gp 41 1 (.slice (some ⟨gp, 0, none⟩) p p) p hs ∧ ∀ k, D k → k < wq.heap.size ∧ k ≠ gp) ∧ Below w6.heap.size w6 wq) (fun vi _ => (intOf vi + 1).toNat)
      case atStart => exact ⟨p, Nat.le_refl _, rfl, OKP.out, O14.out, ⟨_, _, E14.out, P14.out, fun k hk => hk.elim⟩, B14.out⟩
      case round =>
        clear O14 P14 B14 E14 OKP OK
        obtain ⟨n, hnp, rfl, hk0, ho, ⟨D, hs, he, hown, hD⟩, hbq⟩ := hrel
        have OQ := Lib.hid ho; have BQ := Lib.hid hbq; have OK := Lib.hid hk0; have EQ := Lib.hid he; have PQ := Lib.hid hown; have DQ := Lib.hid hD
        clear ho hbq hk0 he hown hD
        obtain ⟨hl1, hl2⟩ := INV.out n (by omega) OK.out
        have HL1 := Lib.hid hl1; have HL2 := Lib.hid hl2
        clear hl1 hl2
        rcases Nat.eq_zero_or_pos n with hn0 | hn0
        · subst hn0
          have hy := FIN.out OK.out
          have HY := Lib.hid hy
          have SR := Lib.hid (own_slrf OQ.out (RWF.out 0))
          have SP := Lib.hid (own_sls EQ.out (by rw [HL2.out]; exact PQ.out))
          have BX : Hid (Below w.heap.size w wr) := Lib.hid (B6.out.trans (BQ.out.mono B6.out.size))
          have hz : ((0 : Nat) : Int) - 1 = -1 := rfl
          clear hy
          rw [hz]
          clear hz
          go_wp2_with fail
          go_ret3
          exact ⟨_, _, by rw [HY.out]; rfl, by rw [HY.out]; exact SR.out, by rw [HY.out]; exact SP.out, BX.out⟩
        · obtain ⟨j, rfl⟩ : ∃ j, n = j + 1 := ⟨n - 1, by omega⟩
          have hz : ((j + 1 : Nat) : Int) - 1 = (j : Int) := by omega
          rw [hz]
          have hj0 : (0 : Int) ≤ (j : Int) := by omega
          have A0W := Lib.hid (A06.out.below BQ.out A06.out.lt); have A1W := Lib.hid (A16.out.below BQ.out A16.out.lt)
          have BX : Hid (Below w.heap.size w wr) := Lib.hid (B6.out.trans (BQ.out.mono B6.out.size))
          have hdr : ∀ y, Below wr.heap.size wr y → y.rangeAt g (0 + j * 34) (refL (hd (j + 1))) := fun y hy => by
            have h := slrf_cell (i := j) ((own_slrf OQ.out (RWF.out _)).below hy) HL1.out.symm (by omega)
            rw [HDG.out] at h
            exact h
          have hft := FTH.out j wr.drew ((BX.out).drew)
          have her := PE.out (j + 1) (by omega) hnp OK.out
          have hpd := PD.out j (by omega) OK.out
          have hds := refC_size (HDW.out (j + 1))
          obtain ⟨HM1, hHM1⟩ : ∃ m, m = refC (hd (j + 1)) := ⟨_, rfl⟩
          have hdm : refL (hd (j + 1)) = HM1.toList := by rw [hHM1]; rfl
          rw [← hHM1] at hft hds
          rw [hdm] at hdr
          obtain ⟨tx, e, hke⟩ : ∃ a c, ft2 (j + 1) = (a, c) := ⟨_, _, rfl⟩
          rw [hke] at hft her hpd
          simp only at hft her hpd
          have FTI := Lib.hid hft; have ERI := Lib.hid her; have PDI := Lib.hid hpd; have HDS := Lib.hid hds; have HDR := Lib.hid hdr
          clear hft her hpd hds hdm hdr hHM1 hke hz hn0
          go_upto_region 20 with fail
          have D0 : Hid (Below wr.heap.size wr wr.drew) := Lib.hid (Below.refl _ _).drew
          refine wp_region_plan_in (fun y => Below wr.heap.size wr y) (.take 0 (.take 1 (.take 2 (.take 3 (.take 4 (.take 5 (.take 6 (.take 7 (.take 8 (.sole 9 (.take 10 (.take 11 (.take 12 (.take 13 (.take 14 .done))))))))))))))) (by kernel_rfl) (by kernel_rfl) (by kernel_rfl) D0.out ?_
          (first | (refine plan_move _ _ (by rfl) (by rfl) (.inl (by rfl)) Mem.ev_a ?_) | (refine plan_move _ _ (by rfl) (by rfl) (.inr (by rfl)) Mem.ev_a ?_) | (refine plan_pick_t _ _ _ _ (by rfl) (by rfl) (by rfl) Mem.ev_a Mem.ev_a ?_) | (refine plan_pick_f _ _ _ _ (by rfl) (by rfl) (by rfl) Mem.ev_a Mem.ev_a ?_))
          (simp only [Act.put, List.setIfInBounds_toArray, List.set_cons_zero, List.set_cons_succ])
          (first | (refine plan_move _ _ (by rfl) (by rfl) (.inl (by rfl)) Mem.ev_a ?_) | (refine plan_move _ _ (by rfl) (by rfl) (.inr (by rfl)) Mem.ev_a ?_) | (refine plan_pick_t _ _ _ _ (by rfl) (by rfl) (by rfl) Mem.ev_a Mem.ev_a ?_) | (refine plan_pick_f _ _ _ _ (by rfl) (by rfl) (by rfl) Mem.ev_a Mem.ev_a ?_))
          (simp only [Act.put, List.setIfInBounds_toArray, List.set_cons_zero, List.set_cons_succ])
          refine plan_row 22 _ w.heap.size _ KC 22 (by rfl) (by rfl) (by rfl) Mem.ev_a (fun w' hw' => A0W.out.below hw' A0W.out.lt) Tryd.underlying22 (by rfl) (by rw [KS.out]; kernel_rfl) ?_
          (simp only [Act.put, List.setIfInBounds_toArray, List.set_cons_zero, List.set_cons_succ])
          refine plan_row 30 _ (w.heap.size + 1) _ C 30 (by rfl) (by rfl) (by rfl) Mem.ev_a (fun w' hw' => A1W.out.below hw' A1W.out.lt) Tryd.underlying30 (by rfl) (by rw [CS.out]; exact infoPS) ?_
          (simp only [Act.put, List.setIfInBounds_toArray, List.set_cons_zero, List.set_cons_succ])
          (first | (refine plan_move _ _ (by rfl) (by rfl) (.inl (by rfl)) Mem.ev_a ?_) | (refine plan_move _ _ (by rfl) (by rfl) (.inr (by rfl)) Mem.ev_a ?_) | (refine plan_pick_t _ _ _ _ (by rfl) (by rfl) (by rfl) Mem.ev_a Mem.ev_a ?_) | (refine plan_pick_f _ _ _ _ (by rfl) (by rfl) (by rfl) Mem.ev_a Mem.ev_a ?_))
          (simp only [Act.put, List.setIfInBounds_toArray, List.set_cons_zero, List.set_cons_succ])
          (first | (refine plan_move _ _ (by rfl) (by rfl) (.inl (by rfl)) Mem.ev_a ?_) | (refine plan_move _ _ (by rfl) (by rfl) (.inr (by rfl)) Mem.ev_a ?_) | (refine plan_pick_t _ _ _ _ (by rfl) (by rfl) (by rfl) Mem.ev_a Mem.ev_a ?_) | (refine plan_pick_f _ _ _ _ (by rfl) (by rfl) (by rfl) Mem.ev_a Mem.ev_a ?_))
          (simp only [Act.put, List.setIfInBounds_toArray, List.set_cons_zero, List.set_cons_succ])
          (first | (refine plan_move _ _ (by rfl) (by rfl) (.inl (by rfl)) Mem.ev_a ?_) | (refine plan_move _ _ (by rfl) (by rfl) (.inr (by rfl)) Mem.ev_a ?_) | (refine plan_pick_t _ _ _ _ (by rfl) (by rfl) (by rfl) Mem.ev_a Mem.ev_a ?_) | (refine plan_pick_f _ _ _ _ (by rfl) (by rfl) (by rfl) Mem.ev_a Mem.ev_a ?_))
          (simp only [Act.put, List.setIfInBounds_toArray, List.set_cons_zero, List.set_cons_succ])
          refine plan_index_z 35 32 _ _ g 0 m m 34 j (by rfl) (by rfl) (by rfl) Mem.ev_a Mem.ev_a (by omega) Tryd.underlying35 infoRfP ?_
          (simp only [Act.put, List.setIfInBounds_toArray, List.set_cons_zero, List.set_cons_succ])
          refine plan_load_range 32 _ g (0 + j * 34) _ HM1 (by rfl) (by rfl) (by rfl) Mem.ev_a (fun w' hw' => HDR.out w' hw') Tryd.underlying32 (by rfl) (by rw [HDS.out]; exact infoRfP) ?_
          (simp only [Act.put, List.setIfInBounds_toArray, List.set_cons_zero, List.set_cons_succ])
          refine plan_call 27 _ _ _ (by kernel_rfl) (by rfl) (by rfl) (by rfl) (by first | exact Mem.ev_none _ | (simp only [List.map_toArray, List.map_cons, List.map_nil, Mem.ev_tmp, List.getD_cons_succ, List.getD_cons_zero] <;> rfl)) ?_
          refine (FTI.out).mono ?_
          rintro o8 w15 ⟨vt, rfl, hs15, hb15⟩
          have S15 : Hid (SlB (fun k => wr.heap.size ≤ k ∧ k < w15.heap.size) w15 vt tx) := Lib.hid (hs15.mono fun k hk hl => ⟨hk, hl⟩)
          have Q15 : Hid (Below wr.heap.size wr w15) := Lib.hid (D0.out.trans (hb15.mono (Nat.le_refl _)))
          clear hs15 hb15
          refine ⟨_, rfl, Q15.out, ?_⟩
          (simp only [Act.put, List.setIfInBounds_toArray, List.set_cons_zero, List.set_cons_succ])
          (first | (refine plan_move _ _ (by rfl) (by rfl) (.inl (by rfl)) Mem.ev_a ?_) | (refine plan_move _ _ (by rfl) (by rfl) (.inr (by rfl)) Mem.ev_a ?_) | (refine plan_pick_t _ _ _ _ (by rfl) (by rfl) (by rfl) Mem.ev_a Mem.ev_a ?_) | (refine plan_pick_f _ _ _ _ (by rfl) (by rfl) (by rfl) Mem.ev_a Mem.ev_a ?_))
          (simp only [Act.put, List.setIfInBounds_toArray, List.set_cons_zero, List.set_cons_succ])
          refine plan_extract _ 0 _ _ (by rfl) (by rfl) (by rfl) Mem.ev_a (by rfl) ?_
          (simp only [Act.put, List.setIfInBounds_toArray, List.set_cons_zero, List.set_cons_succ])
          refine plan_extract _ 1 _ _ (by rfl) (by rfl) (by rfl) Mem.ev_a (by rfl) ?_
          (simp only [Act.put, List.setIfInBounds_toArray, List.set_cons_zero, List.set_cons_succ])
          (first | (refine plan_move _ _ (by rfl) (by rfl) (.inl (by rfl)) Mem.ev_a ?_) | (refine plan_move _ _ (by rfl) (by rfl) (.inr (by rfl)) Mem.ev_a ?_) | (refine plan_pick_t _ _ _ _ (by rfl) (by rfl) (by rfl) Mem.ev_a Mem.ev_a ?_) | (refine plan_pick_f _ _ _ _ (by rfl) (by rfl) (by rfl) Mem.ev_a Mem.ev_a ?_))
          (simp only [Act.put, List.setIfInBounds_toArray, List.set_cons_zero, List.set_cons_succ])
          (first | (refine plan_move _ _ (by rfl) (by rfl) (.inl (by rfl)) Mem.ev_a ?_) | (refine plan_move _ _ (by rfl) (by rfl) (.inr (by rfl)) Mem.ev_a ?_) | (refine plan_pick_t _ _ _ _ (by rfl) (by rfl) (by rfl) Mem.ev_a Mem.ev_a ?_) | (refine plan_pick_f _ _ _ _ (by rfl) (by rfl) (by rfl) Mem.ev_a Mem.ev_a ?_))
          (simp only [Act.put, List.setIfInBounds_toArray, List.set_cons_zero, List.set_cons_succ])
          refine plan_nil ?_
          obtain ⟨at1, ct1, rfl⟩ := sl_inv S15.out.sl
          by_cases he : e = 0
          · subst he
            obtain ⟨s1, s2, s3⟩ := PDI.out rfl
            have hgl15 := (World.ownsRow.lt PQ.out gp rfl).2
            obtain ⟨g', cap', cur, ev, hgB, hgl, hcur, hfit, hset⟩ := own_set1 (i := j) (x := .slice at1 tx.length ct1) (ownsRow_below PQ.out Q15.out) (by omega)
            injection ev with ev1 ev2 ev3
            injection ev1 with ev1
            injection ev1 with ev1 _ _
            subst ev1
            clear ev2 ev3
            have CUR := Lib.hid hcur; have FIT := Lib.hid hfit; have SET := Lib.hid hset; have S1 := Lib.hid s1; have S2' := Lib.hid s2; have S3 := Lib.hid s3; have GPL := Lib.hid hgl15
            have hjp : (j : Int) < (p : Int) := by omega
            obtain ⟨nt, hnt⟩ : ∃ nt, nt = tx.length := ⟨_, rfl⟩
            rw [← hnt] at SET S15 ⊢
            clear s1 s2 s3 hgB hgl hcur hfit hset hgl15 hnt
            go_wp2_with (refine Mem.wpList_store_one (by rfl) 41 _ _ (by rfl) (by rfl) gp j (.slice at1 nt ct1) (by rfl) (by rfl) (by rfl) infoSl14 _ 41 CUR.out FIT.out ?_; intro w16 ha16 ho16 hb16; have PN := Lib.hid (SET.out w16 ha16); have H16 := Lib.hid ho16; have BN : Hid (Below w6.heap.size w6 w16) := Lib.hid (hb16 _ _ (BQ.out.trans (Q15.out.mono BQ.out.size)) (by have := B6.out.size; have := GP6.out; omega)); have Z16 : Hid (w15.heap.size ≤ w16.heap.size) := Lib.hid (hb16 0 w15 (Below.refl _ _) (Nat.zero_le _)).size; clear ha16 ho16 hb16)
            have ON : Hid (OwnRf w16 w6.heap.size 32 (.slice (some ⟨g, 0, none⟩) m m) (WR j)) := Lib.hid (by
              rw [S2'.out]
              exact ownsRow_keep (ownsRow_below OQ.out Q15.out) fun k hk => H16.out k (by
                have : k = g := by simpa [Value.ownBlock] using hk.symm
                have := GL.out; omega))
            have EN : Hid (Each2 (fun p q => SlB (fun k => D k ∨ (wr.heap.size ≤ k ∧ k < w15.heap.size)) w16 p q) (hs.set j (.slice at1 nt ct1)) (WP j)) := Lib.hid (by
              rw [← S3.out]
              have z15 := Q15.out.size
              refine Each2.set j (EQ.out.mono fun a q hx => ?_) ?_
              · exact ((hx.keep Q15.out.size fun k _ hl => Q15.out.block k hl).keep Z16.out fun k hd _ => H16.out k (DQ.out k hd).2).mono fun k hd _ => .inl hd
              · exact (S15.out.keep Z16.out fun k hk _ => H16.out k (by have := GPL.out; omega)).mono fun k hk _ => .inr hk)
            have DN : Hid (∀ k, (D k ∨ (wr.heap.size ≤ k ∧ k < w15.heap.size)) → k < w16.heap.size ∧ k ≠ gp) := Lib.hid fun k hk => by
              have z15 := Q15.out.size; have z16 := Z16.out; have gl := GPL.out
              rcases hk with h | h
              · have := DQ.out k h
                exact ⟨by omega, this.2⟩
              · exact ⟨by omega, by omega⟩
            go_roundw
            case rel => exact ⟨j, by omega, rfl, S1.out, ON.out, ⟨_, _, EN.out, PN.out, DN.out⟩, BN.out⟩
            case measure => simp [intOf]
          · have hy := ERI.out he
            have HY := Lib.hid hy
            have hne : ¬ e = 0 := he
            have BX15 : Hid (Below w.heap.size w w15) := Lib.hid (BX.out.trans (Q15.out.mono BX.out.size))
            clear hy he
            go_wp2_with fail
            go_ret3
            exact ⟨_, _, by rw [HY.out]; rfl, by rw [HY.out]; exact SlRf.nil _, by rw [HY.out]; exact ⟨none, 0, rfl, Nat.le_refl _, fun h => absurd rfl h⟩, BX15.out⟩
end Sha
end Go.Proofs.YtajdpbbbocnfiaaDoor
