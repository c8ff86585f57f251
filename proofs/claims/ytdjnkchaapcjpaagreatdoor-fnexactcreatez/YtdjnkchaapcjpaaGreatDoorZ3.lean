/- the laws' marks: markText, markZnodeS, heldZnodeS: what they write and read back. -/
import Derived.Test.YtdjnkchaapcjpaaGreatDoorZ2
import Derived.Test.YtdjnkchaapcjpaaGreatDoorConv
namespace Go.Proofs.YtdjnkchaapcjpaaGreatDoor
open Go.RowKit

def dgsF : Nat → Nat → List UInt8 → List UInt8
  | 0, _, acc => acc
  | f + 1, n, acc => if n = 0 then acc else dgsF f (n / 10) ((48 + UInt8.ofNat (n % 10)) :: acc)
/-- The text of a mark. -/
def mtext (k : Nat) : ByteArray := if k = 0 then ⟨#[109, 48]⟩ else (⟨#[109]⟩ : ByteArray) ++ mkB (dgsF k k [])

theorem dgsF_zero (f : Nat) (acc : List UInt8) : dgsF f 0 acc = acc := by cases f <;> simp [dgsF]
theorem cat_mkB (x : UInt8) (s : ByteArray) : mkB [x] ++ s = mkB (x :: s.data.toList) := by
  apply ba_eq; simp [mkB, ByteArray.data_append]

set_option maxHeartbeats 1000000 in
set_option maxRecDepth 100000 in
theorem markText_any (k : Nat) (w : World) (hk : k ≤ 16777216) :
    Calls Tryz.prog 95 #[.int .i64 k] w fun e w' => e = .returned (.string (mtext k)) ∧ Ext w w' := by
  have hcv := conv_one
  by_cases h0 : k = 0
  · subst h0
    go_enter Tryz.func95, Tryz.ntmps95
    go_wp2
    go_ret
    exact ⟨rfl, Ext.refl _⟩
  · have HT : Hid (mtext k = (⟨#[109]⟩ : ByteArray) ++ mkB (dgsF k k [])) := by show _ = _; unfold mtext; rw [if_neg h0]
    go_enter Tryz.func95, Tryz.ntmps95
    go_wp2
    go_loopw [0, 3] (fun kv ov wr => ∃ (n f : Nat) (s : ByteArray), kv = .int .i64 n ∧ ov = .string s ∧ n ≤ f ∧ n ≤ k ∧ s.size + n ≤ k ∧ Hid (dgsF f n s.data.toList = dgsF k k []) ∧ Hid (Ext w wr)) (fun kv _ _ => (intOf kv).toNat)
    case atStart => exact ⟨k, k, ⟨#[]⟩, rfl, rfl, Nat.le_refl _, Nat.le_refl _, by show 0 + k ≤ k; omega, rfl, Ext.refl _⟩
    case round =>
      obtain ⟨n, f, s, rfl, rfl, hnf, hnk, hsn, HD, HE⟩ := hrel
      by_cases hn : 0 < n
      · obtain ⟨f', rfl⟩ : ∃ f', f = f' + 1 := ⟨f - 1, by omega⟩
        have HD2 : Hid (dgsF f' (n / 10) (mkB [48 + UInt8.ofNat (n % 10)] ++ s).data.toList = dgsF k k []) := by
          show _ = _
          rw [← HD.out, cat_mkB, mkB_list]
          conv => rhs; rw [dgsF]
          rw [if_neg (by omega)]
        have hz : (mkB [48 + UInt8.ofNat (n % 10)]).size = 1 := by rw [← len_eq, mkB_list]; rfl
        have hm0 : 0 ≤ (n : Int) % 10 := by omega
        have hm1 : (n : Int) % 10 ≤ 9 := by omega
        go_wp2
        exact ⟨⟨n / 10, f', _, by go_num, rfl, by omega, by omega, by rw [ByteArray.size_append, hz]; omega, HD2, HE.out.alloc _⟩, by simp [intOf]; omega⟩
      · have hn0 : n = 0 := by omega
        subst hn0
        go_wp2
        go_ret
        refine ⟨?_, HE.out⟩
        rw [HT.out, ← HD.out, dgsF_zero, ← eq_mkB rfl]
        rfl

/-- The mark that begins with k. -/
def mz (k : Nat) : Zn := ⟨mtext k, (k + 1 : Nat), (k + 2 : Nat), (k + 3 : Nat), (k + 4 : Nat)⟩
def marks (k n : Nat) : List Zn := (List.range n).map fun i => mz (k + 5 * i)
theorem marks_length (k n : Nat) : (marks k n).length = n := by simp [marks]
theorem marks_get (k n i : Nat) (h : i < n) : (marks k n)[i]? = some (mz (k + 5 * i)) := by
  unfold marks
  rw [List.getElem?_map, List.getElem?_range h]; rfl

set_option maxHeartbeats 2000000 in
set_option maxRecDepth 100000 in
theorem markZnodeS_any (v : Value) (g : Nat) (zs : List Zn) (k : Nat) (w : World) (hO : Own w v g zs) (hk : k ≤ 100) (hl : zs.length ≤ 1048576) :
    Calls Tryz.prog 39 #[v, .int .i64 k] w fun e w' => e = .returned (.int .i64 (k + 5 * zs.length : Nat)) ∧ Own w' v g (marks k zs.length) ∧ Upd g w w' := by
  obtain ⟨a, cap, rfl, hlc, hcm, hx⟩ := hO
  have HX : Hid (0 < zs.length → ∃ off, a = some ⟨g, off, none⟩ ∧ Room w g off zs.length ∧ NodesAt w g off zs) := hx
  clear hx
  have hcm' : cap ≤ maxLen := hcm
  have HC : Hid (cap ≤ maxLen) := hcm'
  clear hcm'
  unfold maxLen at hcm
  go_enter Tryz.func39, Tryz.ntmps39
  go_wp2
  go_loopw [1, 5] (fun kv i wr => ∃ (j : Nat), j ≤ zs.length ∧ i = .int .i64 j ∧ kv = .int .i64 (k + 5 * j : Nat) ∧ Hid (∀ off, a = some ⟨g, off, none⟩ → 0 < zs.length → Room wr g off zs.length ∧ NodesAt wr g off ((marks k zs.length).take j)) ∧ Hid (Upd g w wr)) (fun _ i _ => zs.length - (intOf i).toNat)
  case atStart =>
    refine ⟨0, Nat.zero_le _, rfl, rfl, ?_, Upd.refl _ _⟩
    intro off ha h0
    obtain ⟨off', ha', hr, _⟩ := HX.out h0
    rw [ha] at ha'
    simp only [Option.some.injEq, Addr.mk.injEq, true_and, and_true] at ha'
    subst ha'
    exact ⟨hr, fun i z h => by simp at h⟩
  case round =>
    obtain ⟨j, hj, rfl, rfl, HR, HU⟩ := hrel
    by_cases hlt : j < zs.length
    · obtain ⟨off, rfl, _, _⟩ := HX.out (by omega)
      obtain ⟨hr, hN⟩ := HR.out off rfl (by omega)
      obtain ⟨kk, hkk⟩ : ∃ kk, kk = k + 5 * j := ⟨_, rfl⟩
      have hkb : kk ≤ 5242981 := by omega
      have HK : Hid (kk = k + 5 * j) := hkk
      rw [← hkk]
      clear hkk
      have hmt := markText_any kk wr (by omega)
      have HRR : Hid (Room wr g off zs.length) := hr
      have HNN : Hid (NodesAt wr g off ((marks k zs.length).take j)) := hN
      clear hr hN
      go_wp2_with fail
      refine hmt.mono ?_
      rintro e w2 ⟨rfl, hb2⟩
      clear hmt
      have HR2 : Hid (Room w2 g off zs.length) := HRR.out.ext hb2
      have HN2 : Hid (NodesAt w2 g off ((marks k zs.length).take j)) := HNN.out.ext HRR.out.1 hb2
      have HU2 : Hid (Upd g w w2) := HU.out.trans (Upd.ext hb2 (by have := HRR.out.1; omega))
      clear hb2
      obtain ⟨⟨u0, r0⟩, f0⟩ := HR2.out.2 (j * 5) (by omega)
      obtain ⟨⟨u1, r1⟩, f1⟩ := HR2.out.2 (j * 5 + 1) (by omega)
      obtain ⟨⟨u2, r2⟩, f2⟩ := HR2.out.2 (j * 5 + 2) (by omega)
      obtain ⟨⟨u3, r3⟩, f3⟩ := HR2.out.2 (j * 5 + 3) (by omega)
      obtain ⟨⟨u4, r4⟩, f4⟩ := HR2.out.2 (j * 5 + 4) (by omega)
      rw [← Nat.add_assoc] at r1 r2 r3 r4 f1 f2 f3 f4
      have P1 : Hid (Room (putZ w2 g (off + j * 5) (mz kk)) g off zs.length) := HR2.out.put (mz kk) hlt
      have P2 : Hid (NodesAt (putZ w2 g (off + j * 5) (mz kk)) g off ((marks k zs.length).take (j + 1))) := NodesAt.put HR2.out hlt (by rw [marks_get _ _ _ hlt, ← HK.out]) HN2.out
      have P3 : Hid (Upd g w (putZ w2 g (off + j * 5) (mz kk))) := upd_putZ HU2.out _ _
      go_wp2
      refine ⟨⟨j + 1, by omega, by go_num, by rw [show k + 5 * (j + 1) = kk + 5 from by rw [HK.out]; omega]; go_num, ?_, P3.out⟩, by simp [intOf]; omega⟩
      intro off' ho _
      simp only [Option.some.injEq, Addr.mk.injEq, true_and, and_true] at ho
      subst ho
      exact ⟨P1.out, P2.out⟩
    · have hje : j = zs.length := by omega
      subst hje
      go_wp2
      go_ret
      refine ⟨rfl, ⟨_, cap, by rw [marks_length], by rw [marks_length]; exact hlc, HC.out, fun h0 => ?_⟩, HU.out⟩
      rw [marks_length] at h0
      obtain ⟨off, rfl, _, _⟩ := HX.out h0
      obtain ⟨hr, hN⟩ := HR.out off rfl h0
      rw [List.take_of_length_le (by rw [marks_length]; omega)] at hN
      exact ⟨off, rfl, by rw [marks_length]; exact hr, hN⟩

set_option maxHeartbeats 2000000 in
set_option maxRecDepth 100000 in
theorem heldZnodeS_any (v : Value) (n k : Nat) (w : World) (hO : NSlice w v (marks k n)) (hk : k ≤ 100) (hl : n ≤ 1048576) :
    Calls Tryz.prog 96 #[v, .int .i64 k] w fun e w' => e = .returned (.int .i64 (k + 5 * n : Nat)) ∧ Ext w w' := by
  obtain ⟨a, cap, rfl, hlc, hcm, hx⟩ := hO
  have HX : Hid (0 < (marks k n).length → ∃ b off, a = some ⟨b, off, none⟩ ∧ b < w.heap.size ∧ NodesAt w b off (marks k n)) := hx
  clear hx
  unfold maxLen at hcm
  rw [marks_length] at hlc ⊢
  go_enter Tryz.func96, Tryz.ntmps96
  go_wp2
  go_loopw [1, 5] (fun kv i wr => ∃ (j : Nat), j ≤ n ∧ i = .int .i64 j ∧ kv = .int .i64 (k + 5 * j : Nat) ∧ Hid (Ext w wr)) (fun _ i _ => n - (intOf i).toNat)
  case atStart => exact ⟨0, Nat.zero_le _, rfl, rfl, Ext.refl _⟩
  case round =>
    obtain ⟨j, hj, rfl, rfl, HE⟩ := hrel
    by_cases hlt : j < n
    · obtain ⟨b, off, rfl, hb, hN⟩ := HX.out (by rw [marks_length]; omega)
      obtain ⟨d0, d1, d2, d3, d4⟩ := hN.ext hb HE.out j _ (marks_get k n j hlt)
      obtain ⟨kk, hkk⟩ : ∃ kk, kk = k + 5 * j := ⟨_, rfl⟩
      have hkb : kk ≤ 5242981 := by omega
      have HK : Hid (kk = k + 5 * j) := hkk
      rw [← hkk] at d0 d1 d2 d3 d4 ⊢
      have hbr : b < wr.heap.size := Nat.lt_of_lt_of_le hb HE.out.size
      simp only [mz] at d0 d1 d2 d3 d4
      clear hkk hN
      have HT : Hid (∀ wx : World, Calls Tryz.prog 95 #[.int .i64 kk] wx fun e w' => e = .returned (.string (mtext kk)) ∧ Ext wx w') := fun wx => markText_any kk wx (by omega)
      have HC : Hid (∀ wx : World, Ext wr.drew wx → wx.cell? ⟨b, off + j * 5, none⟩ = some (.string (mtext kk)) ∧ wx.cell? ⟨b, off + j * 5 + 1, none⟩ = some (.int .i64 ((kk + 1 : Nat) : Int)) ∧ wx.cell? ⟨b, off + j * 5 + 2, none⟩ = some (.int .i64 ((kk + 2 : Nat) : Int)) ∧ wx.cell? ⟨b, off + j * 5 + 3, none⟩ = some (.int .i64 ((kk + 3 : Nat) : Int)) ∧ wx.cell? ⟨b, off + j * 5 + 4, none⟩ = some (.int .i64 ((kk + 4 : Nat) : Int))) := by
        intro wx hx
        obtain ⟨hc, _⟩ := Ext.cell hx
        exact ⟨(hc _ _ hbr).trans d0, (hc _ _ hbr).trans d1, (hc _ _ hbr).trans d2, (hc _ _ hbr).trans d3, (hc _ _ hbr).trans d4⟩
      clear d1 d2 d3 d4
      generalize mtext kk = mt at *
      go_wp2
      go_region_with (go_at_call 95; refine (HT.out _).mono ?_; rintro e w2 ⟨rfl, hb2⟩; obtain ⟨c0, c1, c2, c3, c4⟩ := HC.out _ hb2)
      all_goals
        go_wp2
        exact ⟨⟨j + 1, by omega, by go_num, by rw [show k + 5 * (j + 1) = kk + 5 from by rw [HK.out]; omega]; go_num, HE.out.trans (((Ext.refl _).drew).trans hb2)⟩, by simp [intOf]; omega⟩
    · have hje : j = n := by omega
      subst hje
      go_wp2
      go_ret
      exact ⟨rfl, HE.out⟩
end Go.Proofs.YtdjnkchaapcjpaaGreatDoor
