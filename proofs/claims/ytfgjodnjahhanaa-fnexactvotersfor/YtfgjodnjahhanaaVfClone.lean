/- strings.Clone answers the same bytes: the library's contract for internal/stringslite.Clone, laid at this program's numbers. -/
import Derived.Shelf.LaysM
import Derived.Shelf.Strconv.Clone
import Derived.Test.YtfgjodnjahhanaaVfW4
namespace Go.Proofs.Ytfgjodnjahhanaa
open Go.Shelf Go.RowKit
def cloneRen : Go.Shelf.Ren := ⟨fun | 316 => 56 | n => n, fun | 9 => 9 | 3 => 3 | 4 => 4 | 37 => 76 | 0 => 0 | 127 => 96 | 5 => 5 | n => n, fun | n => n⟩
end Go.Proofs.Ytfgjodnjahhanaa
