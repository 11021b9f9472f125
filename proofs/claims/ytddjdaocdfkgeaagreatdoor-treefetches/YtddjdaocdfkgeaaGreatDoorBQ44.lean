/- The program's tree: all its functions do what the laws ask of them. -/
import Derived.Test.YtddjdaocdfkgeaaGreatDoorBQ40
import Derived.Test.YtddjdaocdfkgeaaGreatDoorBQ39
import Derived.Test.YtddjdaocdfkgeaaGreatDoorBQ41
namespace Go.Proofs.YtddjdaocdfkgeaaGreatDoor
namespace Sha
open Go.RowKit Mem
theorem treeP:TreeP where
 make:=fun key ep P v w hT lk hs hn hl=>pmake14_any key ep P v w hT lk hs hn hl
 lay:=fun L v w hp hok hv hG hn hL=>plays14_any L v w hp hok hv hG hn hL
 fetch:=fun key p z r w hT lk hp hok hw0 _ h1 hrw=>(pfetch14_any key p z r w hT lk hp hok hw0 h1 hrw).mono fun _ _ h=>h.seal
 kids:=fun p z pg v w hv hl _ h1=>pkids14_any p z pg v w hv hl h1
 whole:=fun key p r w hT lk hp hok hw0 h0 h1 hrw=>pwhole14_any key p r w hT lk hp hok hw0 h0 h1 hrw
 way:=fun key p r z w hT lk hp hok hw0 h0 h1 hrw=>pway14_any key p r z w hT lk hp hok hw0 h0 h1 hrw
end Sha
end Go.Proofs.YtddjdaocdfkgeaaGreatDoor
