/- laws.FnExactKidsZ answers true at every argument. -/
import Derived.Test.YtihfgaanaffinaaDoorI10
import Derived.Test.YtihfgaanaffinaaDoorZ8
namespace Go.Proofs.YtihfgaanaffinaaDoor
open Go.RowKit
theorem Tre.kidsV_len (zs : List Zn) (p : ByteArray) : (Tre.kidsV zs p).2.length ≤ 1048576 := by
  by_cases h : Tre.asked zs p = 0
  · have h20 := (Tre.asked_len h).1
    have := Tre.kids_le zs p
    unfold Tre.kidsV
    split
    · simp
    · split
      · simp
      · show (Tre.kids zs p).length ≤ _; omega
  · rw [Tre.kidsV_bad rfl h]; simp
theorem lawKidsZ (v : Value) (zs : List Zn) (s : ByteArray) (w : World) (hg : Gd w) (hS : NSlice w v zs) (hz : ∀ z ∈ zs, z.path.size ≤ maxLen) :
    Calls Tryd.prog 16 #[v, .string s] w fun e w' => e = .returned (.bool true) ∧ Ext w w' :=
  lawKidsZ_of v zs s w (Tre.kidsV zs s).1 (Tre.kidsV zs s).2 hS hz (Tre.kidsV_len zs s) (fun _ _ _ wx vx _ h => specKidsZ_any vx zs s wx h) (fun _ _ _ wx vx he h => implKidsZ_any vx zs s wx (hg.ext he) h)
end Go.Proofs.YtihfgaanaffinaaDoor
