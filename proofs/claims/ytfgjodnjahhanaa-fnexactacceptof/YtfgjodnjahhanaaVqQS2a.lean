/- the library's contracts for slices.Sorted(maps.Keys(m)) at keys of int64, laid at this program's numbers. -/
import Derived.Shelf.SlIterI.Sorted
import Derived.Shelf.SortM.Plain
import Derived.Shelf.SortM.SortNone
import Derived.Test.YtfgjodnjahhanaaProg
namespace Go.Proofs.Ytfgjodnjahhanaa
open Go.RowKit Go.Maps Go.Sort Go.Shelf
def keysS_ren : Go.Shelf.Ren := ⟨fun | 7 => 46 | 10 => 51 | n => n, fun | 23 => 58 | 26 => 2 | 3 => 75 | 28 => 73 | 0 => 0 | 27 => 72 | 33 => 52 | 4 => 4 | n => n, fun | n => n⟩
def sortedS_ren : Go.Shelf.Ren := ⟨fun | 6 => 45 | 8 => 49 | 9 => 50 | 11 => 53 | 13 => 55 | 12 => 54 | 23 => 66 | 24 => 67 | 14 => 57 | 15 => 58 | 16 => 59 | 17 => 60 | 18 => 61 | 19 => 62 | 20 => 63 | 21 => 64 | 22 => 65 | 25 => 68 | 26 => 69 | 27 => 70 | 28 => 71 | 29 => 72 | 30 => 73 | 31 => 74 | n => n, fun | 26 => 2 | 28 => 73 | 24 => 32 | 0 => 0 | 3 => 3 | 37 => 83 | 48 => 93 | 50 => 95 | 4 => 4 | 40 => 86 | 39 => 85 | 45 => 90 | 5 => 5 | 9 => 9 | 51 => 97 | 55 => 101 | 57 => 103 | 58 => 104 | 33 => 52 | n => n, fun | n => n⟩
def sortS_ren : Go.Shelf.Ren := ⟨fun | 5 => 50 | 8 => 55 | 7 => 54 | 19 => 66 | 20 => 67 | 10 => 57 | 11 => 58 | 12 => 59 | 13 => 60 | 14 => 61 | 15 => 62 | 16 => 63 | 17 => 64 | 18 => 65 | 30 => 68 | 31 => 69 | 32 => 70 | 33 => 71 | 34 => 72 | 35 => 73 | 40 => 74 | n => n, fun | 23 => 32 | 25 => 2 | 3 => 3 | 32 => 83 | 22 => 32 | 0 => 0 | 44 => 93 | 46 => 95 | 4 => 4 | 36 => 86 | 35 => 85 | 41 => 90 | 5 => 5 | 9 => 9 | 53 => 97 | 57 => 101 | 63 => 103 | 64 => 104 | n => n, fun | n => n⟩
end Go.Proofs.Ytfgjodnjahhanaa
