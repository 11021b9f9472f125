/- The program's cache: New, Room, check, Put, Get, Has, Pin, Unpin, Drop, Order, Len. -/
import Derived.Test.YteiffdccfmfdbaaLruPRoom
namespace Go.Proofs.Yteiffdccfmfdbaa
namespace Sha
open Go.RowKit Mem Lru
theorem PRaw.mono {F : Foot} {b : Nat} {w : World} {room n m : Nat} {pg : Int → Option (List (BitVec 8))} {pn : Int → Bool} {os : List Int} (h : PRaw F b w room n pg pn os) (hm : n ≤ m) : PRaw F b w room m pg pn os := by
  obtain ⟨bm, bp, v, f, h⟩ := h
  exact ⟨bm, bp, v, f, { h with mm := h.mm.mono hm, mp := h.mp.mono hm }⟩
theorem REnd.mono {F : Foot} {b : Nat} {w w' : World} {room n m : Nat} {pg : Int → Option (List (BitVec 8))} {pn : Int → Bool} {os : List Int} (h : REnd F b w room n pg pn os w') (hm : n ≤ m) : REnd F b w room m pg pn os w' := by
  obtain ⟨⟨F', h1, h2⟩, h3⟩ := h
  exact ⟨⟨F', h1.mono hm, h2⟩, h3⟩
theorem PCa.mono {F : Foot} {b : Nat} {w : World} {room n m : Nat} {l : List Hd} (h : PCa F b w room n l) (hm : n ≤ m) : PCa F b w room m l := ⟨h.raw.mono hm, h.ok.mono hm, h.r1, h.r2⟩
set_option maxRecDepth 100000 in
set_option maxHeartbeats 1000000 in
theorem croom_any {F : Foot} {b room n : Nat} {l : List Hd} (w : World) (h : PCa F b w room n l) : Calls Try.prog 23 #[cq b] w fun e w' => e = .returned (.int .i64 (room : Int)) ∧ w' = w := by
  obtain ⟨⟨bm, bp, v, f, hv⟩, _, _, _⟩ := h
  have c0 : w.cell? ⟨b, 0, none⟩ = some (.int .i64 (room : Int)) := by rw [hv.row.cell]; rfl
  clear hv
  go_enter Try.func23, Try.ntmps23
  go_wp2_with fail
  go_ret
  exact ⟨rfl, rfl⟩
set_option maxRecDepth 100000 in
set_option maxHeartbeats 1000000 in
theorem ccheck_any {F : Foot} {b room n : Nat} {l : List Hd} (x : Int) (w : World) (h : PCa F b w room n l) : Calls Try.prog 30 #[cq b, .int .i64 x] w fun e w' => e = .returned (.int .i64 (if isI x then 0 else 1)) ∧ w' = w := by
  have hr := croom_any w h
  have h1 : ¬ room = 0 := by have := h.r1; omega
  have HR := Lib.hid hr
  clear hr h
  by_cases g1 : x < 0
  · have e1 : isI x = false := by simp [isI]; omega
    rw [e1]
    clear e1
    go_enter Try.func30, Try.ntmps30
    go_wp2_with (go_at_call 23; refine HR.out.mono ?_; rintro e w2 ⟨rfl, rfl⟩)
    go_ret
    exact ⟨rfl, rfl⟩
  · by_cases g2 : x > 4095
    · have e1 : isI x = false := by simp [isI]; omega
      rw [e1]
      clear e1
      go_enter Try.func30, Try.ntmps30
      go_wp2_with (go_at_call 23; refine HR.out.mono ?_; rintro e w2 ⟨rfl, rfl⟩)
      go_ret
      exact ⟨rfl, rfl⟩
    · have e1 : isI x = true := by simp [isI]; omega
      rw [e1]
      clear e1
      go_enter Try.func30, Try.ntmps30
      go_wp2_with (go_at_call 23; refine HR.out.mono ?_; rintro e w2 ⟨rfl, rfl⟩)
      go_ret
      exact ⟨rfl, rfl⟩
/-- Behind hold. -/
theorem held_cend {F : Foot} {b room n : Nat} {l : List Hd} {x : Int} {p : List (BitVec 8)} {w w' : World} (h : PCa F b w room n l) (hx : 0 ≤ x ∧ x < 4096) (hp : p.length ≤ 1000000) (hr : REnd F b w room (n + 1) (updP (pgOf l) x (some p)) (pinOf l) (unl x (osOf l) ++ [x]) w') : CEnd PCa F b w room (n + 1) (⟨x, p, pinOf l x⟩ :: rsH l x) w' :=
  cend_of hr (pgOf_cons _ _ _ _) (pinOf_put _ _ _) (osOf_cons _ _ _ _) (ok_cons h.ok hx hp _) h.r1 h.r2
set_option maxRecDepth 100000 in
set_option maxHeartbeats 2000000 in
theorem cput_any {F : Foot} {b room n : Nat} {l : List Hd} (x : Int) (p : List (BitVec 8)) (vp : Value) (w : World) (h : PCa F b w room n l) (hp : Sl w vp p) (hpl : p.length ≤ 1000000) (hn : n ≤ 100000) :
    Calls Try.prog 19 #[cq b, .int .i64 x, vp] w fun e w' => e = .returned (.tuple #[.int .i64 (putH room l x p).2.1, .int .i64 (putH room l x p).2.2]) ∧ CEnd PCa F b w room (n + 1) (putH room l x p).1 w' := by
  have hc := ccheck_any x w h
  cases hi : isI x with
  | false =>
    rw [hi] at hc
    have e1 : putH room l x p = (l, -1, 1) := by unfold putH; rw [hi]; rfl
    rw [e1]
    have HC := Lib.hid hc; have H := Lib.hid h
    clear hc h e1 hi hp hpl hn
    go_enter Try.func19, Try.ntmps19
    go_wp2_with (go_at_call 30; refine HC.out.mono ?_; rintro e w2 ⟨rfl, rfl⟩)
    go_ret2
    exact ⟨rfl, cend_same (H.out.mono (Nat.le_succ _)) (Below.refl _ _)⟩
  | true =>
    rw [hi] at hc
    have hx := isI_iff.1 hi
    have e1 : putH room l x p = ((fit room (⟨x, p, pinOf l x⟩ :: rsH l x)).1, (fit room (⟨x, p, pinOf l x⟩ :: rsH l x)).2, 0) := by unfold putH; rw [hi]; rfl
    rw [e1]
    have hh := phold_raw x p vp w h.raw (wf_it hx) hp hpl (by omega) (osOf_nodup h.ok.nd) (by rw [osOf_len]; have := h.ok.len; omega)
    have HC := Lib.hid hc; have H := Lib.hid h; have HH := Lib.hid hh; have HX := Lib.hid hx; have HP := Lib.hid hpl; have HN := Lib.hid hn
    clear hc h e1 hi hp hh hx hpl hn
    go_enter Try.func19, Try.ntmps19
    go_wp2_with (first
      | (go_at_call 30; refine HC.out.mono ?_; rintro e w2 ⟨rfl, rfl⟩)
      | (go_at_call 31; refine HH.out.mono ?_; rintro e w3 ⟨rfl, hr⟩; have HE := Lib.hid (held_cend H.out HX.out HP.out hr); clear hr)
      | fail)
    obtain ⟨⟨F1, h1, hF1⟩, hc1⟩ := HE.out
    have hq := proom_any _ h1 (by have := HN.out; omega)
    have HQ := Lib.hid hq; have HF := Lib.hid hF1; have HC1 := Lib.hid hc1
    clear hq hF1 hc1 h1 HE
    refine HQ.out.mono ?_
    rintro e w4 ⟨rfl, hr⟩
    have HR := Lib.hid (CEnd.trans HF.out HC1.out hr)
    clear hr
    go_wp2_with fail
    go_ret2
    exact ⟨rfl, HR.out⟩
end Sha
end Go.Proofs.Yteiffdccfmfdbaa
