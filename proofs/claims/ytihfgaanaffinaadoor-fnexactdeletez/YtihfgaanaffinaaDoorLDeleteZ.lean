/- laws.FnExactDeleteZ answers true at every argument. -/
import Derived.Test.YtihfgaanaffinaaDoorI13
import Derived.Test.YtihfgaanaffinaaDoorZ5
namespace Go.Proofs.YtihfgaanaffinaaDoor
open Go.RowKit
theorem Tre.delV_len (zs : List Zn) (p : ByteArray) (n : Int) : (Tre.delV zs p n).2.2.length ≤ 1048576 := by
  by_cases h : Tre.asked zs p = 0
  · have h20 := (Tre.asked_len h).1
    rw [Tre.delV_ok h]
    unfold Tre.delT
    split
    · simp
    · split
      · simp
      · split
        · simp
        · split
          · simp
          · split
            · simp
            · simp; omega
  · rw [Tre.delV_bad rfl h]; simp
theorem lawDeleteZ (v : Value) (zs : List Zn) (s : ByteArray) (n : Int) (w : World) (hg : Gd w) (hS : NSlice w v zs) (hz : ∀ z ∈ zs, z.path.size ≤ maxLen) :
    Calls Tryd.prog 13 #[v, .string s, .int .i64 n] w fun e w' => e = .returned (.bool true) ∧ Ext w w' :=
  lawDeleteZ_of v zs s n w (Tre.delV zs s n).1 (Tre.delV zs s n).2.1 (Tre.delV zs s n).2.2 hS hz (Tre.delV_len zs s n) (fun _ _ _ wx vx _ h => specDeleteZ_any vx zs s n wx h) (fun _ _ _ wx vx he h => implDeleteZ_any vx zs s n wx (hg.ext he) h)
end Go.Proofs.YtihfgaanaffinaaDoor
