/- the library's contracts for slices.Sorted(maps.Keys(m)) at keys of int64, laid at this program's numbers. -/
import Derived.Shelf.SlIterI.Sorted
import Derived.Shelf.SortM.Plain
import Derived.Shelf.SortM.SortNone
import Derived.Test.YtflojfkalnojbaaProg
namespace Go.Proofs.Ytflojfkalnojbaa
open Go.RowKit Go.Maps Go.Sort Go.Shelf
def keysS_ren : Go.Shelf.Ren := ⟨fun | 7 => 132 | 10 => 164 | n => n, fun | 23 => 95 | 26 => 2 | 3 => 149 | 28 => 147 | 0 => 0 | 27 => 146 | 33 => 101 | 4 => 4 | n => n, fun | n => n⟩
def sortedS_ren : Go.Shelf.Ren := ⟨fun | 6 => 131 | 8 => 162 | 9 => 163 | 11 => 167 | 13 => 169 | 12 => 168 | 23 => 180 | 24 => 181 | 14 => 171 | 15 => 172 | 16 => 173 | 17 => 174 | 18 => 175 | 19 => 176 | 20 => 177 | 21 => 178 | 22 => 179 | 25 => 182 | 26 => 183 | 27 => 184 | 28 => 185 | 29 => 186 | 30 => 187 | 31 => 188 | n => n, fun | 26 => 2 | 28 => 147 | 24 => 26 | 0 => 0 | 3 => 3 | 37 => 167 | 48 => 178 | 50 => 180 | 4 => 4 | 40 => 171 | 39 => 170 | 45 => 175 | 5 => 5 | 9 => 9 | 51 => 181 | 55 => 185 | 57 => 187 | 58 => 188 | 33 => 101 | n => n, fun | n => n⟩
def sortS_ren : Go.Shelf.Ren := ⟨fun | 5 => 163 | 8 => 169 | 7 => 168 | 19 => 180 | 20 => 181 | 10 => 171 | 11 => 172 | 12 => 173 | 13 => 174 | 14 => 175 | 15 => 176 | 16 => 177 | 17 => 178 | 18 => 179 | 30 => 182 | 31 => 183 | 32 => 184 | 33 => 185 | 34 => 186 | 35 => 187 | 40 => 188 | n => n, fun | 23 => 26 | 25 => 2 | 3 => 3 | 32 => 167 | 22 => 26 | 0 => 0 | 44 => 178 | 46 => 180 | 4 => 4 | 36 => 171 | 35 => 170 | 41 => 175 | 5 => 5 | 9 => 9 | 53 => 181 | 57 => 185 | 63 => 187 | 64 => 188 | n => n, fun | n => n⟩
end Go.Proofs.Ytflojfkalnojbaa
