/- laws.FnExactSetZ answers true at every argument. -/
import Derived.Test.YtihfgaanaffinaaDoorI8
import Derived.Test.YtihfgaanaffinaaDoorZ5
namespace Go.Proofs.YtihfgaanaffinaaDoor
open Go.RowKit
theorem Tre.setV_len (zs : List Zn) (p : ByteArray) (d n : Int) : (Tre.setV zs p d n).2.2.length ≤ 1048576 := by
  by_cases h : Tre.asked zs p = 0
  · have h20 := (Tre.asked_len h).1
    rw [Tre.setV_ok h]
    unfold Tre.setT
    split
    · simp
    · split
      · simp
      · split
        · simp
        · split
          · simp
          · split
            · simp
            · simp; omega
  · rw [Tre.setV_bad rfl h]; simp
theorem lawSetZ (v : Value) (zs : List Zn) (s : ByteArray) (d n : Int) (w : World) (hg : Gd w) (hS : NSlice w v zs) (hz : ∀ z ∈ zs, z.path.size ≤ maxLen) :
    Calls Tryd.prog 14 #[v, .string s, .int .i64 d, .int .i64 n] w fun e w' => e = .returned (.bool true) ∧ Ext w w' :=
  lawSetZ_of v zs s d n w (Tre.setV zs s d n).1 (Tre.setV zs s d n).2.1 (Tre.setV zs s d n).2.2 hS hz (Tre.setV_len zs s d n) (fun _ hl _ wx vx _ h => specSetZ_any vx zs s d n wx h hl) (fun _ _ _ wx vx he h => implSetZ_any vx zs s d n wx (hg.ext he) h)
end Go.Proofs.YtihfgaanaffinaaDoor
