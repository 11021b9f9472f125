/- Package pack keeps what the laws of layer 5 ask of it. -/
import Derived.Test.YtoefhcikfmgkbaaPackMid
import Derived.Test.YtoefhcikfmgkbaaPackGet
namespace Go.Proofs.Ytoefhcikfmgkbaa
namespace Sha
open Go.RowKit Mem
abbrev packR : RdAcc := fun w br b e => RPk w br b e
theorem same_below {w w' : World} (h : w = w') : Below w.heap.size w w' := by subst h; exact Below.refl _ _
theorem packC : PackC packR where
  below := fun h hb => h.below hb
  but := fun h hC hno hne hb => h.but hC hno hne hb
  keep := fun h hb hs => h.keep hb hs
  lt := fun h => h.lt
  num := fun b n size v w hv hb hn _ _ => pnumput_any b n size v w hv hb hn
  textBad := fun b s place v u w hv hu _ hs hp hbad => ptextbad_any b s place v u w hv hu hs hp hbad
  text := fun b s place v u w hv hu hb h1 h2 hs => ptextput_any b s place v u w hv hu hb h1 h2 hs
  fillBad := fun b size v w hv hb hlt => pfillbad_any b size v w hv hb hlt
  fill := fun b size v w hv hle hs => pfill_any b size v w hv hle hs
  read := fun b v w hv hb => read_any b v w hv hb
  pnum := fun b e size most br w hr hb _ _ _ hm => pnumget_any b e size most br w hr hb hm
  ptext := fun b e place br w hr hb _ _ _ => ptextget_any b e place br w hr hb
  pbytes := fun b e z br w hr hb _ h0 h1 => pbytes_any b e z br w hr hb h0 h1
  prest := fun b e br w hr hb _ => prest_any b e br w hr hb
  perr := fun b e br w hr _ _ => (perr0_any b e br w hr).mono (by rintro o w' ⟨rfl, rfl⟩; exact ⟨rfl, rpk_same hr⟩)
  pleft := fun b e br w hr hb _ => pleft_any b e br w hr hb
  nnum := nnum_any
  ntext := ntext_any
  nbytes := nbytes_any
  nrest := nrest_any
  nerr := fun w => (nerr0_any w).mono (by rintro o w' ⟨rfl, rfl⟩; exact ⟨rfl, Below.refl _ _⟩)
  nleft := nleft_any
end Sha
end Go.Proofs.Ytoefhcikfmgkbaa
