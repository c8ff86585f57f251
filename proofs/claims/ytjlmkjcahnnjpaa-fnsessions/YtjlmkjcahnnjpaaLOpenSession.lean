/- the exact law of OpenSession. -/
import Derived.Test.YtjlmkjcahnnjpaaE10
namespace Go.Proofs.Ytjlmkjcahnnjpaa
open Go.RowKit
theorem Ses.openV_len (l : List Se) (i n : Int) : (Ses.openV l i n).2.length ≤ 1048576 := by
  unfold Ses.openV
  split
  · simp
  · split
    · simp
    · split
      · simp
      · have := putSe_len ⟨i, n + 10⟩ l
        simp only
        omega
theorem lawOpenSession (v : Value) (l : List Se) (i n : Int) (w : World) (hS : ESlice w v l) :
    Calls Try.prog 5 #[v, .int .i64 i, .int .i64 n] w fun e w' => e = .returned (.bool true) ∧ Ext w w' :=
  lawOpenSession_of v l i n w _ _ hS (Ses.openV_len l i n) (fun _ wx vx _ hv h => specOpenSession_any vx l i n wx hv h) (fun _ wx vx _ h => implOpenSession_any vx l i n wx h)
end Go.Proofs.Ytjlmkjcahnnjpaa
