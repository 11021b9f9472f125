/- Package dev keeps the contracts that the laws of layer 6 ask. -/
import Derived.Test.YtkgpcgkikenljaaDevPCrash
import Derived.Test.YtkgpcgkikenljaaDevPTam
import Derived.Test.YtkgpcgkikenljaaDevPWr
import Derived.Test.YtkgpcgkikenljaaDevPRead
import Derived.Test.YtkgpcgkikenljaaDevPSame2
namespace Go.Proofs.Ytkgpcgkikenljaa
namespace Sha
open Go.RowKit Mem
theorem plen_ok {F : Foot} {b : Nat} {s : St6} (w : World) (hr : PSt F b w s) (hok : Ok6 1000 s) : Calls Try.prog 12 #[rq b] w (Told w (.int .i64 (s.n : Int))) := by
  obtain ⟨D, bb, vw, vs, vt, hv⟩ := hr
  refine (plen_any b bb s.n vw vs vt w hv.row hok.n2).mono ?_
  rintro e w' ⟨rfl, rfl⟩
  exact ⟨rfl, Below.refl _ _⟩
theorem devC : DevC PSt where
  lt := fun h => by obtain ⟨D, bb, vw, vs, vt, hv⟩ := h; exact hv.lt
  keep := fun h hs hk => by obtain ⟨D, bb, vw, vs, vt, hv⟩ := h; exact (hv.keep hs hk).ps
  newBad := fun n w _ _ h => pnew_bad n w h
  new := fun n w h1 h2 => pnew_good n w h1 h2
  len := fun w hr hok => plen_ok w hr hok
  read := fun n w hr hok hn => pread_any n w hr hok hn
  readBad := fun n w hr hok _ _ h => pread_bad n w hr hok h
  write := fun n x v w hr hok hx hn hl => pwrite_good n x v w hr hok hx hn hl
  writeBad := fun n x v w hr hok hx _ _ hl h => pwrite_bad n x v w hr hok hx hl h
  flush := fun w hr hok => pflush_any w hr hok
  waiting := fun w hr hok => pwaiting_any w hr hok
  crash := fun keep torn parts w hr hok hk _ _ h0 h1 => pcrash_any keep torn parts w hk h0 h1 hr hok
  tamper := fun n k x v w hr hok hx hn hk => ptamper_good n k x v w hr hok hx hn hk
  tamperBad := fun n k x v w hr hok hx hl _ _ h0 h1 h => ptamper_bad n k x v w hr hok hx hl h0 h1 h
  put := fun w hr hok h => pput_good w hr hok h
  putFull := fun w hr hok h => pput_full w hr hok h
  restore := fun k w hr hok h => prestore_good k w hr hok h
  restoreBad := fun k w hr hok _ _ h => prestore_bad k w hr hok h
  bytes := fun w hr hok => pbytes_any w hr hok.n1 hok.n2
  trace := fun w hr hok => ptrace_any w hr hok.n1 hok.n2 hok.t
  same := fun w hr hq h1 h2 => psame_any w hr hq h1 h2
end Sha
end Go.Proofs.Ytkgpcgkikenljaa
