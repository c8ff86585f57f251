/- laws.FnExactParseOp answers true at every text, and leaves what was there as it was: the statement's row, and its tied card (the listed variables are as the program's text lays them). No other condition. In one text: Y7, Y8, LParseOp, RowC, RowD, RowP, RowZ, RParseOp. -/
import Derived.Test.YtdjnkchaapcjpaaGreatDoorMY1
import Derived.Test.YtdjnkchaapcjpaaGreatDoorMY2
import Derived.Test.YtdjnkchaapcjpaaGreatDoorMY3
import Derived.Test.YtdjnkchaapcjpaaGreatDoorX5
import Derived.Test.YtdjnkchaapcjpaaGreatDoorCards
import Derived.Test.YtdjnkchaapcjpaaGreatDoorTie
import Derived.Test.YtdjnkchaapcjpaaGreatDoorW4
import Derived.ChangeSame
import Derived.ChangeVars
import Derived.JoinedOf
import Derived.RowKit
import Derived.RowKitTokens
import Derived.LaidLaws
import Derived.LaidHandle
import Derived.ProofKit
import Derived.OpenShut
import Derived.Stop.Joined
import Derived.SevenTiedAt
import Derived.Test.YtdjnkchaapcjpaaGreatDoorP1
import Derived.Stop.LaidErr
import Derived.Lib.LaidTab
import Derived.Test.YtdjnkchaapcjpaaGreatDoorX2
import Derived.Deep.DeepLaidRun
import Derived.Test.YtdjnkchaapcjpaaGreatDoorZ1
import Derived.ChangeOld
import Derived.Below
import Derived.Carry
import Derived.Deep.Slices
/- the specification's l5Parse and ParseOp. -/
namespace Go.Proofs.YtdjnkchaapcjpaaGreatDoor
open Go.RowKit
theorem l5Parse_any (s : ByteArray) (w : World) (hs : s.size ≤ 1048576) : Calls Tryz.prog 59 #[.string s] w fun e w' => ∃ (o : Opn) (b : Bool), e = .returned (.tuple #[oagg o, .bool b]) ∧ (b = true → Opr.fault o = 0 ∧ s.data.toList = Opr.text o) ∧ (∀ z, Opr.fault z = 0 → s.data.toList = Opr.text z → o = z ∧ b = true) ∧ Ext w w' := by
  obtain ⟨qs, hqs⟩ : ∃ qs : List ByteArray, qs = (Opr.cutB [] s.data.toList).map mkB := ⟨_, rfl⟩
  have hu : ∀ ps : List ByteArray, ps.map (·.data.toList) = Opr.cutB [] s.data.toList → ps = qs := fun ps h => by rw [hqs]; exact Opr.pieces_of h
  cases hD : Opr.hasData (Opr.kindW (qs.getD 0 ⟨#[]⟩).data.toList) with
  | false =>
    cases hV : Opr.hasVer (Opr.kindW (qs.getD 0 ⟨#[]⟩).data.toList) with
    | false => exact l5Parse_c1 s w hs (fun ps h => by rw [hu ps h]; exact ⟨hD, hV, trivial⟩)
    | true =>
      cases hN : Opr.nums (qs.drop 2) with
      | nil => exact l5Parse_c2 s w hs (fun ps h => by rw [hu ps h]; exact ⟨hD, hV, hN⟩)
      | cons n0 r => exact l5Parse_c3 s w hs (fun ps h => by rw [hu ps h]; exact ⟨hD, hV, n0, r, hN⟩)
  | true =>
    cases hV : Opr.hasVer (Opr.kindW (qs.getD 0 ⟨#[]⟩).data.toList) with
    | false =>
      cases hN : Opr.nums (qs.drop 2) with
      | nil => exact l5Parse_c4 s w hs (fun ps h => by rw [hu ps h]; exact ⟨hD, hV, hN⟩)
      | cons n0 r =>
        cases r with
        | nil => exact l5Parse_c6 s w hs (fun ps h => by rw [hu ps h]; exact ⟨hD, hV, n0, hN⟩)
        | cons n1 r => exact l5Parse_c8 s w hs (fun ps h => by rw [hu ps h]; exact ⟨hD, hV, n0, n1, r, hN⟩)
    | true =>
      cases hN : Opr.nums (qs.drop 2) with
      | nil => exact l5Parse_c5 s w hs (fun ps h => by rw [hu ps h]; exact ⟨hD, hV, hN⟩)
      | cons n0 r =>
        cases r with
        | nil => exact l5Parse_c7 s w hs (fun ps h => by rw [hu ps h]; exact ⟨hD, hV, n0, hN⟩)
        | cons n1 r => exact l5Parse_c9 s w hs (fun ps h => by rw [hu ps h]; exact ⟨hD, hV, n0, n1, r, hN⟩)
end Go.Proofs.YtdjnkchaapcjpaaGreatDoor

/- the specification's ParseOp. -/
namespace Go.Proofs.YtdjnkchaapcjpaaGreatDoor
open Go.RowKit
set_option maxHeartbeats 2000000 in
set_option maxRecDepth 100000 in
theorem specParseOp_any (s : ByteArray) (w : World) (hs : s.size ≤ 1048576) : Calls Tryz.prog 20 #[.string s] w fun e w' => ∃ (c : Int) (o : Opn), e = .returned (opr c o) ∧ Opr.Parsed s c o ∧ Ext w w' := by
  have HP : Hid (∀ wx : World, Calls Tryz.prog 59 #[.string s] wx fun e w' => ∃ (o : Opn) (b : Bool), e = .returned (.tuple #[oagg o, .bool b]) ∧ (b = true → Opr.fault o = 0 ∧ s.data.toList = Opr.text o) ∧ (∀ z, Opr.fault z = 0 → s.data.toList = Opr.text z → o = z ∧ b = true) ∧ Ext wx w') := fun wx => l5Parse_any s wx hs
  clear hs
  go_enter Tryz.func20, Tryz.ntmps20
  go_wp2_with fail
  refine (HP.out _).mono ?_
  rintro e w1 ⟨o, b, rfl, h1, h2, hb⟩
  have H1 : Hid _ := h1
  have H2 : Hid _ := h2
  have E1 : Hid (Ext w w1) := ((Ext.refl _).alloc _).trans hb
  obtain ⟨gl, gg⟩ := (rres_new w _).ext hb
  obtain ⟨⟨u0, g0⟩, k0⟩ := gg 0 (by omega)
  obtain ⟨⟨u1, g1⟩, k1⟩ := gg 1 (by omega)
  obtain ⟨⟨u2, g2⟩, k2⟩ := gg 2 (by omega)
  obtain ⟨⟨u3, g3⟩, k3⟩ := gg 3 (by omega)
  obtain ⟨⟨u4, g4⟩, k4⟩ := gg 4 (by omega)
  obtain ⟨⟨u5, g5⟩, k5⟩ := gg 5 (by omega)
  obtain ⟨⟨u6, g6⟩, k6⟩ := gg 6 (by omega)
  clear gg hb h1 h2 HP
  have hal := alloc_cell
  have haf := alloc_frozen
  unfold oagg
  cases b with
  | false =>
    go_wp2
    refine bodyPost_ret (v := opr 5 ⟨0, ⟨#[]⟩, 0, 0, false, false⟩) (by simp [results, Tryz.results20, go_sem, opr, *]) rfl ⟨5, ⟨0, ⟨#[]⟩, 0, 0, false, false⟩, rfl, Or.inr ⟨rfl, rfl, fun z hf hz => by have h := (H2.out z hf hz).2; cases h⟩, ?_⟩
    exact (((((((E1.out.setCell (p := ⟨w.heap.size, 0, none⟩) (Nat.le_refl _) _).setCell (p := ⟨w.heap.size, 1, none⟩) (Nat.le_refl _) _).setCell (p := ⟨w.heap.size, 2, none⟩) (Nat.le_refl _) _).setCell (p := ⟨w.heap.size, 3, none⟩) (Nat.le_refl _) _).setCell (p := ⟨w.heap.size, 4, none⟩) (Nat.le_refl _) _).setCell (p := ⟨w.heap.size, 5, none⟩) (Nat.le_refl _) _).setCell (p := ⟨w.heap.size, 6, none⟩) (Nat.le_refl _) _).alloc _
  | true =>
    go_wp2
    refine bodyPost_ret (v := opr 0 o) (by simp [results, Tryz.results20, go_sem, opr, *]) rfl ⟨0, o, rfl, Or.inl ⟨rfl, (H1.out trivial).1, (H1.out trivial).2⟩, ?_⟩
    exact (((((((E1.out.setCell (p := ⟨w.heap.size, 0, none⟩) (Nat.le_refl _) _).setCell (p := ⟨w.heap.size, 1, none⟩) (Nat.le_refl _) _).setCell (p := ⟨w.heap.size, 2, none⟩) (Nat.le_refl _) _).setCell (p := ⟨w.heap.size, 3, none⟩) (Nat.le_refl _) _).setCell (p := ⟨w.heap.size, 4, none⟩) (Nat.le_refl _) _).setCell (p := ⟨w.heap.size, 5, none⟩) (Nat.le_refl _) _).setCell (p := ⟨w.heap.size, 6, none⟩) (Nat.le_refl _) _).alloc _
end Go.Proofs.YtdjnkchaapcjpaaGreatDoor

/- laws.FnExactParseOp answers true at every text. -/
namespace Go.Proofs.YtdjnkchaapcjpaaGreatDoor
open Go.RowKit
set_option maxHeartbeats 1000000 in
theorem eqOpResult_same (c : Int) (z : Opn) (w : World) : Calls Tryz.prog 22 #[opr c z, opr c z] w fun e w' => e = .returned (.bool true) ∧ Ext w w' := by
  have HC : Hid (∀ wx : World, Calls Tryz.prog 62 #[.agg #[.int .i64 z.kind, .string z.path, .int .i64 z.data, .int .i64 z.version, .bool z.seq, .bool z.own], .agg #[.int .i64 z.kind, .string z.path, .int .i64 z.data, .int .i64 z.version, .bool z.seq, .bool z.own]] wx fun e w' => e = .returned (.bool true) ∧ Ext wx w') := fun wx => eqOp_same z wx
  unfold opr
  go_enter Tryz.func22, Tryz.ntmps22
  go_wp2_with fail
  refine (HC.out _).mono ?_
  rintro e w1 ⟨rfl, hb⟩
  have HB : Hid (Ext w w1) := (((Ext.refl _).alloc _).alloc _).trans hb
  clear hb
  go_wp2
  go_ret
  exact ⟨rfl, HB.out⟩
/-- Seven values in a box. -/
def PBoxAt (w : World) (b : Nat) (c : Int) (z : Opn) : Prop := b < w.heap.size ∧ w.cell? ⟨b, 0, none⟩ = some (.int .i64 c) ∧ w.cell? ⟨b, 1, none⟩ = some (.int .i64 z.kind) ∧ w.cell? ⟨b, 2, none⟩ = some (.string z.path) ∧ w.cell? ⟨b, 3, none⟩ = some (.int .i64 z.data) ∧ w.cell? ⟨b, 4, none⟩ = some (.int .i64 z.version) ∧ w.cell? ⟨b, 5, none⟩ = some (.bool z.seq) ∧ w.cell? ⟨b, 6, none⟩ = some (.bool z.own)
theorem PBoxAt.ext {w w' : World} {b : Nat} {c : Int} {z : Opn} (h : PBoxAt w b c z) (he : Ext w w') : PBoxAt w' b c z := by
  obtain ⟨hc, -⟩ := Ext.cell he
  obtain ⟨hb, c0, c1, c2, c3, c4, c5, c6⟩ := h
  exact ⟨Nat.lt_of_lt_of_le hb he.size, (hc _ _ hb).trans c0, (hc _ _ hb).trans c1, (hc _ _ hb).trans c2, (hc _ _ hb).trans c3, (hc _ _ hb).trans c4, (hc _ _ hb).trans c5, (hc _ _ hb).trans c6⟩
theorem pbox_new (w : World) (c : Int) (z : Opn) (t : TypeId) : PBoxAt (w.alloc (.cells #[.int .i64 c, .int .i64 z.kind, .string z.path, .int .i64 z.data, .int .i64 z.version, .bool z.seq, .bool z.own] t)) w.heap.size c z := ⟨by simp, by simp, by simp, by simp, by simp, by simp, by simp, by simp⟩
theorem Opr.parsed_one {s : ByteArray} {c c' : Int} {o o' : Opn} (h : Opr.Parsed s c o) (hu : ∀ z, c = 0 → Opr.fault z = 0 → s.data.toList = Opr.text z → z = o) (h' : Opr.Parsed s c' o') : c = c' ∧ o = o' := by
  rcases h with ⟨rfl, f, t⟩ | ⟨rfl, rfl, n⟩
  · rcases h' with ⟨rfl, f', t'⟩ | ⟨-, -, n'⟩
    · exact ⟨rfl, (hu o' rfl f' t').symm⟩
    · exact absurd t (n' o f)
  · rcases h' with ⟨-, f', t'⟩ | ⟨rfl, rfl, -⟩
    · exact absurd t' (n o' f')
    · exact ⟨rfl, rfl⟩

set_option maxHeartbeats 1000000 in
set_option maxRecDepth 100000 in
theorem lawParseOp (s : ByteArray) (w : World) (hE : Es w) (hg : Gd w) (ht : Tb w) :
    Calls Tryz.prog 6 #[.string s] w fun e w' => e = .returned (.bool true) ∧ Ext w w' := by
  by_cases h : 1048576 < s.size
  · go_enter Tryz.func6, Tryz.ntmps6
    go_wp2
    go_ret
    exact ⟨rfl, Ext.refl _⟩
  · have HSp : Hid (∀ wx : World, Calls Tryz.prog 20 #[.string s] wx fun e w' => ∃ (c : Int) (o : Opn), e = .returned (opr c o) ∧ Opr.Parsed s c o ∧ Ext wx w') := fun wx => specParseOp_any s wx (by omega)
    have HIm : Hid (∀ wx : World, Ext w wx → Calls Tryz.prog 21 #[.string s] wx fun e w' => ∃ (c : Int) (o : Opn), e = .returned (opr c o) ∧ Opr.Parsed s c o ∧ (∀ z, c = 0 → Opr.fault z = 0 → s.data.toList = Opr.text z → z = o) ∧ Ext wx w') := fun wx he => implParseOp_any s wx (by omega) (hE.ext he) (hg.ext he) (ht.ext he)
    clear hE hg ht
    go_enter Tryz.func6, Tryz.ntmps6
    go_wp2_with fail
    refine (HSp.out _).mono ?_
    rintro e w1 ⟨c, o, rfl, hP, hb⟩
    have E1 : Hid (Ext w w1) := hb
    have P1 : Hid (Opr.Parsed s c o) := hP
    clear hb hP HSp
    unfold opr
    go_wp2_with fail
    refine (HIm.out _ (E1.out.alloc _)).mono ?_
    rintro e w2 ⟨c2, o2, rfl, hP2, hu, hb⟩
    have E2 : Hid (Ext w w2) := (E1.out.alloc _).trans hb
    have B2 : Hid (PBoxAt w2 w1.heap.size c o) := (pbox_new w1 c o _).ext hb
    obtain ⟨rfl, rfl⟩ := Opr.parsed_one hP2 hu P1.out
    have HQ : Hid (∀ wx : World, Calls Tryz.prog 22 #[opr c2 o2, opr c2 o2] wx fun e w' => e = .returned (.bool true) ∧ Ext wx w') := eqOpResult_same c2 o2
    clear hb hP2 hu HIm
    unfold opr at HQ ⊢
    obtain ⟨bl, b0, b1, b2, b3, b4, b5, b6⟩ := B2.out
    have hal := alloc_cell
    go_wp2_with fail
    refine (HQ.out _).mono ?_
    rintro e w3 ⟨rfl, hb⟩
    have E3 : Hid (Ext w w3) := (E2.out.alloc _).trans hb
    clear hb bl b0 b1 b2 b3 b4 b5 b6 hal
    go_wp2
    go_ret
    exact ⟨rfl, E3.out⟩
end Go.Proofs.YtdjnkchaapcjpaaGreatDoor

/- What the rows of chapter 1 have in common: what the listed variable errors.errorType gives, and that it can be so. -/
namespace Go.Proofs.YtdjnkchaapcjpaaGreatDoor
open Go.ChangeShapes Go.WideShapes Go.RowKit

theorem own_knob : ownKnob Tryz.prog.godebug = none := by kernel_rfl
theorem gErr : Tryz.prog.globalNamed "errors.errorType" = some 0 := by kernel_rfl
theorem gRt : (Tryz.prog.cutTypes.find? (·.1 == "internal/reflectlite.rtype")).map (·.2) = some 280 := by kernel_rfl
theorem gOne : ((List.range 343).filter fun t => Tryz.prog.rowNamed t [101, 114, 114, 111, 114]) = [202] := by kernel_rfl
theorem gSize : Tryz.prog.types.size = 343 := by kernel_rfl

/-- What the list gives a walk: the variable's one cell. -/
theorem gd_of_laid {W : World} (h : laidMetH Tryz.prog [("errors.errorType", Rows.laid_errors_errorType)] W) : Gd W := by
  have h' : laidMet Tryz.prog [] W ∧ handlesMet Tryz.prog [("errors.errorType", Rows.laid_errors_errorType)] W := h
  obtain ⟨name, u, ty, e1, e2, e3, e4, e5⟩ := h'.2 _ (List.mem_singleton.2 rfl)
  have en : name = [101, 114, 114, 111, 114] := (Option.some.inj e1).symm
  subst en
  obtain rfl := Option.some.inj (gRt.symm.trans e2)
  have hm : ty ∈ (List.range 343).filter fun t => Tryz.prog.rowNamed t [101, 114, 114, 111, 114] := List.mem_filter.2 ⟨List.mem_range.2 (by rw [← gSize]; exact e3), e4⟩
  rw [gOne] at hm
  obtain rfl := List.mem_singleton.1 hm
  have hh : typeHandle Tryz.prog 202 = .pointer (some ⟨9, 202, none⟩) := by kernel_rfl
  rw [hh] at e5
  have hc := World.var?_cell gErr e5 0
  unfold Gd errH
  simpa using hc

/-- A cells block whose first cell is v. -/
def putFirst (v : Value) : Obj → Obj
  | .cells _ t frozen => .cells #[v] t frozen
  | o => o
def putAll (vs : Array Value) : Obj → Obj
  | .cells _ t frozen => .cells vs t frozen
  | o => o
end Go.Proofs.YtdjnkchaapcjpaaGreatDoor

/- What the rows over the library's tables give a walk: errors.errorType, and the table of powers. -/
namespace Go.Proofs.YtdjnkchaapcjpaaGreatDoor
open Go.ChangeShapes Go.WideShapes Go.RowKit
theorem tPow : (Tryz.prog.globals[2]?).map (·.type) = some 295 := by kernel_rfl
set_option maxRecDepth 100000 in
theorem laid4 {W : World} (h : laidMetH Tryz.prog [("math/bits.deBruijn32tab", Rows.laid_math_bits_deBruijn32tab), ("math/bits.deBruijn64tab", Rows.laid_math_bits_deBruijn64tab), ("internal/strconv.uint64pow10", Rows.laid_internal_strconv_uint64pow10), ("errors.errorType", Rows.laid_errors_errorType)] W) : Gd W ∧ Tb W := by
  have h' : laidMet Tryz.prog [("math/bits.deBruijn32tab", Rows.laid_math_bits_deBruijn32tab), ("math/bits.deBruijn64tab", Rows.laid_math_bits_deBruijn64tab), ("internal/strconv.uint64pow10", Rows.laid_internal_strconv_uint64pow10)] W ∧ handlesMet Tryz.prog [("errors.errorType", Rows.laid_errors_errorType)] W := h
  refine ⟨gd_of_laid (show laidMetH Tryz.prog [("errors.errorType", Rows.laid_errors_errorType)] W from ⟨laidMet_nil _ _, h'.2⟩), ?_⟩
  have h3 : laidMet Tryz.prog [("internal/strconv.uint64pow10", Rows.laid_internal_strconv_uint64pow10)] W := h'.1.tail.tail
  exact Lib.tabIs_of_head (rest := []) gPow tPow Tryz.underlying295 Tryz.underlying167 (by kernel_rfl) (by kernel_rfl) h3
end Go.Proofs.YtdjnkchaapcjpaaGreatDoor

/- What the row of ParseOp gives a walk: errors.errorType, the table of powers, the two errors of strconv. -/
namespace Go.Proofs.YtdjnkchaapcjpaaGreatDoor
open Go.ChangeShapes Go.WideShapes Go.RowKit
theorem tSyn : (Tryz.prog.globals[3]?).map (·.type) = some 202 := by kernel_rfl
theorem tRan : (Tryz.prog.globals[4]?).map (·.type) = some 202 := by kernel_rfl
theorem starE : "*" ++ "errors.errorString" = "*errors.errorString" := by decide
theorem rowE (u : TypeId) (h : Tryz.prog.typeName? 3 u = some "*errors.errorString") : u = 311 :=
  typeName_ptr_named (nm := "errors.errorString") (by rw [starE]; kernel_rfl) (by kernel_rfl) (by decide) u (by rw [starE]; exact h)
theorem cellsES : Tryz.prog.cellsOf 313 = 1 := by kernel_rfl
theorem cellsStr : Tryz.prog.cellsOf 9 = 1 := by kernel_rfl
set_option maxRecDepth 100000 in
theorem laid8 {W : World} (h : laidMetH Tryz.prog [("math/bits.deBruijn32tab", Rows.laid_math_bits_deBruijn32tab), ("math/bits.deBruijn64tab", Rows.laid_math_bits_deBruijn64tab), ("internal/strconv.uint64pow10", Rows.laid_internal_strconv_uint64pow10), ("unicode/utf8.acceptRanges", Rows.laid_unicode_utf8_acceptRanges), ("errors.errorType", Rows.laid_errors_errorType), ("strconv.ErrRange", Rows.laid_strconv_ErrRange), ("strconv.ErrSyntax", Rows.laid_strconv_ErrSyntax), ("unicode/utf8.first", Rows.laid_unicode_utf8_first)] W) : Es W ∧ Gd W ∧ Tb W := by
  have h' : laidMet Tryz.prog [("math/bits.deBruijn32tab", Rows.laid_math_bits_deBruijn32tab), ("math/bits.deBruijn64tab", Rows.laid_math_bits_deBruijn64tab), ("internal/strconv.uint64pow10", Rows.laid_internal_strconv_uint64pow10), ("unicode/utf8.acceptRanges", Rows.laid_unicode_utf8_acceptRanges), ("strconv.ErrRange", Rows.laid_strconv_ErrRange), ("strconv.ErrSyntax", Rows.laid_strconv_ErrSyntax), ("unicode/utf8.first", Rows.laid_unicode_utf8_first)] W ∧ handlesMet Tryz.prog [("errors.errorType", Rows.laid_errors_errorType)] W := h
  refine ⟨⟨?_, ?_⟩, gd_of_laid (show laidMetH Tryz.prog [("errors.errorType", Rows.laid_errors_errorType)] W from ⟨laidMet_nil _ _, h'.2⟩), ?_⟩
  · obtain ⟨a, s, hv, -⟩ := laid_sentinel h'.1.tail.tail.tail.tail.tail gSyn tSyn Tryz.underlying202 rowE Tryz.underlying311 Tryz.underlying313 rfl rfl Tryz.underlying9 cellsES cellsStr
    exact ⟨_, _, hv⟩
  · obtain ⟨a, s, hv, -⟩ := laid_sentinel h'.1.tail.tail.tail.tail gRan tRan Tryz.underlying202 rowE Tryz.underlying311 Tryz.underlying313 rfl rfl Tryz.underlying9 cellsES cellsStr
    exact ⟨_, _, hv⟩
  · exact Lib.tabIs_of_head gPow tPow Tryz.underlying295 Tryz.underlying167 (by kernel_rfl) (by kernel_rfl) h'.1.tail.tail
end Go.Proofs.YtdjnkchaapcjpaaGreatDoor

/- How an argument of nodes is opened. -/
namespace Go.Proofs.YtdjnkchaapcjpaaGreatDoor
open Go.ChangeShapes Go.WideShapes Go.ChangeAt Go.RowKit
theorem laid_outZ : laidOutB Tryz.prog = true := by kernel_rfl
instance : Inhabited Zn := ⟨⟨ByteArray.empty, 0, 0, 0, 0⟩⟩
theorem nodes_add (a : Addr) (i k : Nat) : (a.add i).add k = a.add (i + k) := Deep.add_add a i k
theorem spot_none {W : World} {a : Addr} {v : Value} (h : W.cell? a = some v) : a = ⟨a.block, a.off, none⟩ := by
  obtain ⟨b, o, s⟩ := a
  cases s with
  | none => rfl
  | some x => simp [World.cell?] at h; split at h <;> simp at h
set_option maxRecDepth 100000 in
theorem open_node {H : Type} {enc : TypeId × Value → H} {W : World} {n : Nat} {cs : List Value} {x : DataW H × List MemPlace} {a : Addr}
    (hc : W.cells? 0 a 5 = some cs) (h : DataW.trod enc Tryz.prog W 0 (fun _ => true) true n 132 cs = some x) :
    ∃ z : Zn, z.path.size ≤ maxLen ∧ W.cell? (a.add 0) = some (.string z.path) ∧ W.cell? (a.add 1) = some (.int .i64 z.data) ∧ W.cell? (a.add 2) = some (.int .i64 z.version) ∧ W.cell? (a.add 3) = some (.int .i64 z.owner) ∧ W.cell? (a.add 4) = some (.int .i64 z.next) := by
  obtain ⟨_, hl, hcell⟩ := World.cells?_some hc
  obtain ⟨xs, n', _, _, _, hlen, hf⟩ := DataW.trod_struct Tryz.underlying132 h
  match cs, hl with
  | [u0, u1, u2, u3, u4], _ =>
    match xs, hlen with
    | [y0, y1, y2, y3, y4], _ =>
      have f0 := hf 0 _ rfl
      have f1 := hf 1 _ rfl
      have f2 := hf 2 _ rfl
      have f3 := hf 3 _ rfl
      have f4 := hf 4 _ rfl
      simp only [List.getElem?_cons_zero, List.getElem?_cons_succ] at f0 f1 f2 f3 f4
      obtain ⟨s, e0, _, hs⟩ := DataW.trod_string Tryz.underlying9 f0
      obtain ⟨m1, e1, _, _⟩ := DataW.trod_int Tryz.underlying2 f1
      obtain ⟨m2, e2, _, _⟩ := DataW.trod_int Tryz.underlying2 f2
      obtain ⟨m3, e3, _, _⟩ := DataW.trod_int Tryz.underlying2 f3
      obtain ⟨m4, e4, _, _⟩ := DataW.trod_int Tryz.underlying2 f4
      injection e0 with e0 _
      injection e1 with e1 _
      injection e2 with e2 _
      injection e3 with e3 _
      injection e4 with e4 _
      subst e0 e1 e2 e3 e4
      exact ⟨⟨s, m1, m2, m3, m4⟩, hs, hcell 0 (by omega), hcell 1 (by omega), hcell 2 (by omega), hcell 3 (by omega), hcell 4 (by omega)⟩
set_option maxRecDepth 100000 in
theorem open_nodes {H : Type} {enc : TypeId × Value → H} {W : World} {v : Value} {d : DataW H} {ps : List MemPlace}
    (h : DataW.Trod enc Tryz.prog W 0 (fun _ => true) true 22 v d ps) (hv : ∃ a l c, v = .slice a l c) : ∃ zs, NSlice W v zs ∧ ∀ z ∈ zs, z.path.size ≤ maxLen := by
  obtain ⟨a0, l0, c0, rfl⟩ := hv
  obtain ⟨fuel, hf⟩ := h
  have c5 : Tryz.prog.cellsOf 132 = 5 := by kernel_rfl
  rcases Deep.open_slice Tryz.underlying22 hf with ⟨hcs, _⟩ | ⟨a, len, cap, m, n, D, Pl, hcs, _, hl, hm, hmm, _, hx⟩
  · simp [Value.cells] at hcs
    obtain ⟨rfl, rfl, rfl⟩ := hcs
    exact ⟨[], ⟨none, 0, rfl, Nat.le_refl _, by unfold maxLen; omega, fun h => by simp at h⟩, fun z hz => by cases hz⟩
  · simp [Value.cells] at hcs
    obtain ⟨rfl, rfl, rfl⟩ := hcs
    have hmc : m = c0 := by simpa using hmm
    subst hmc
    rw [c5] at hx
    obtain ⟨f, hfz⟩ := Deep.choose_lt (α := Zn) (p := fun i z => z.path.size ≤ maxLen ∧ W.cell? (a.add (i * 5 + 0)) = some (.string z.path) ∧ W.cell? (a.add (i * 5 + 1)) = some (.int .i64 z.data) ∧ W.cell? (a.add (i * 5 + 2)) = some (.int .i64 z.version) ∧ W.cell? (a.add (i * 5 + 3)) = some (.int .i64 z.owner) ∧ W.cell? (a.add (i * 5 + 4)) = some (.int .i64 z.next)) (n := m) (fun i hi => by
      obtain ⟨cs', h1, h2⟩ := hx i hi
      obtain ⟨z, h3⟩ := open_node h1 h2
      simp only [nodes_add] at h3
      exact ⟨z, h3⟩)
    refine ⟨(List.range l0).map f, ⟨some a, m, by simp, by simpa using hl, hm, fun h0 => ?_⟩, fun z hz => ?_⟩
    · have h0' : 0 < l0 := by simpa using h0
      have hs : a = ⟨a.block, a.off, none⟩ := spot_none (by have := (hfz 0 (by omega)).2.1; simpa [Addr.add] using this)
      refine ⟨a.block, a.off, by rw [← hs], World.block_lt_of_cell? W _ (hfz 0 (by omega)).2.1, ?_⟩
      intro i z hz
      rw [List.getElem?_map] at hz
      obtain ⟨j, hj, rfl⟩ := Option.map_eq_some_iff.1 hz
      have hi := (List.getElem?_eq_some_iff.1 hj).1
      rw [List.length_range] at hi
      have hj2 : i = j := by rw [List.getElem?_range hi] at hj; exact Option.some.inj hj
      subst hj2
      obtain ⟨_, q0, q1, q2, q3, q4⟩ := hfz i (by omega)
      rw [hs, Addr.add_lit] at q0 q1 q2 q3 q4
      simp only [Nat.add_zero, ← Nat.add_assoc] at q0 q1 q2 q3 q4
      exact ⟨q0, q1, q2, q3, q4⟩
    · obtain ⟨i, hi, rfl⟩ := List.mem_map.1 hz
      rw [List.mem_range] at hi
      exact (hfz i (by omega)).1
end Go.Proofs.YtdjnkchaapcjpaaGreatDoor

/- laws.FnExactParseOp answers true at every argument, and leaves what was there as it was: the statement's row, and its tied card (the listed variables are as the program's text lays them). No other condition. -/
namespace Go.Proofs.YtdjnkchaapcjpaaGreatDoor
open Go.ChangeShapes Go.WideShapes Go.ChangeAt Go.RowKit
open Go.ChangeMaps (open_string shut_string)

set_option maxRecDepth 100000 in
theorem fnExactParseOp_lifted (os : Os) (started : os.Started) (H : Type) (enc : TypeId × Value → H) :
    ReturnsInHanded {} Tryz.checked os 6 .any (fun w args => (Rows.fnExactParseOpSpec.pre enc Tryz.prog Tryz.f6 [] false w args ∧ laidMetH Tryz.prog Rows.fnExactParseOpRow.laid w) ∧ sizedMet enc Tryz.prog Tryz.f6 (OpenSpec.ofChange Rows.fnExactParseOpSpec) false w args)
      (Rows.fnExactParseOpSpec.post enc Tryz.prog Tryz.f6 false true false false) := by
  refine returnsInHanded_of_change_and (C := Tryz.checked) (X := fun w _ => laidMetH Tryz.prog Rows.fnExactParseOpRow.laid w) (fun _ _ _ hh h => h.of_heap hh) own_knob started (by kernel_rfl) Tryz.func6
    (ChangeSpec.witness_at (enc := enc) (C := Tryz.checked) (os := os) (X := fun w _ => laidMetH Tryz.prog Rows.fnExactParseOpRow.laid w) false ({ World.holding Tryz.prog os ⟨#[.cells #[.string ⟨#[118, 97, 108, 117, 101, 32, 111, 117, 116, 32, 111, 102, 32, 114, 97, 110, 103, 101]⟩] 313, .cells #[.string ⟨#[105, 110, 118, 97, 108, 105, 100, 32, 115, 121, 110, 116, 97, 120]⟩] 313], #[], []⟩ with heap := ((((((((World.holding Tryz.prog os ⟨#[.cells #[.string ⟨#[118, 97, 108, 117, 101, 32, 111, 117, 116, 32, 111, 102, 32, 114, 97, 110, 103, 101]⟩] 313, .cells #[.string ⟨#[105, 110, 118, 97, 108, 105, 100, 32, 115, 121, 110, 116, 97, 120]⟩] 313], #[], []⟩).heap.modify 4 (putFirst (.iface 311 (.pointer (some ⟨14, 0, none⟩))))).modify 3 (putFirst (.iface 311 (.pointer (some ⟨15, 0, none⟩))))).modify 5 (putAll (Go.Pinned.utf8FirstZ.map fun (n : Nat) => Value.int .u8 (n : Int)).toArray)).modify 7 (putAll #[.int .u8 0, .int .u8 1, .int .u8 28, .int .u8 2, .int .u8 29, .int .u8 14, .int .u8 24, .int .u8 3, .int .u8 30, .int .u8 22, .int .u8 20, .int .u8 15, .int .u8 25, .int .u8 17, .int .u8 4, .int .u8 8, .int .u8 31, .int .u8 27, .int .u8 13, .int .u8 23, .int .u8 21, .int .u8 19, .int .u8 16, .int .u8 7, .int .u8 26, .int .u8 12, .int .u8 18, .int .u8 6, .int .u8 11, .int .u8 5, .int .u8 10, .int .u8 9])).modify 8 (putAll #[.int .u8 0, .int .u8 1, .int .u8 56, .int .u8 2, .int .u8 57, .int .u8 49, .int .u8 28, .int .u8 3, .int .u8 61, .int .u8 58, .int .u8 42, .int .u8 50, .int .u8 38, .int .u8 29, .int .u8 17, .int .u8 4, .int .u8 62, .int .u8 47, .int .u8 59, .int .u8 36, .int .u8 45, .int .u8 43, .int .u8 51, .int .u8 22, .int .u8 53, .int .u8 39, .int .u8 33, .int .u8 30, .int .u8 24, .int .u8 18, .int .u8 12, .int .u8 5, .int .u8 63, .int .u8 55, .int .u8 48, .int .u8 27, .int .u8 60, .int .u8 41, .int .u8 37, .int .u8 16, .int .u8 46, .int .u8 35, .int .u8 44, .int .u8 21, .int .u8 52, .int .u8 32, .int .u8 23, .int .u8 11, .int .u8 54, .int .u8 26, .int .u8 40, .int .u8 15, .int .u8 34, .int .u8 20, .int .u8 31, .int .u8 10, .int .u8 25, .int .u8 14, .int .u8 19, .int .u8 9, .int .u8 13, .int .u8 8, .int .u8 7, .int .u8 6])).modify 2 (putAll #[.int .u64 1, .int .u64 10, .int .u64 100, .int .u64 1000, .int .u64 10000, .int .u64 100000, .int .u64 1000000, .int .u64 10000000, .int .u64 100000000, .int .u64 1000000000, .int .u64 10000000000, .int .u64 100000000000, .int .u64 1000000000000, .int .u64 10000000000000, .int .u64 100000000000000, .int .u64 1000000000000000, .int .u64 10000000000000000, .int .u64 100000000000000000, .int .u64 1000000000000000000, .int .u64 10000000000000000000])).modify 6 (putAll #[.int .u8 128, .int .u8 191, .int .u8 160, .int .u8 191, .int .u8 128, .int .u8 159, .int .u8 144, .int .u8 191, .int .u8 128, .int .u8 143, .int .u8 0, .int .u8 0, .int .u8 0, .int .u8 0, .int .u8 0, .int .u8 0, .int .u8 0, .int .u8 0, .int .u8 0, .int .u8 0, .int .u8 0, .int .u8 0, .int .u8 0, .int .u8 0, .int .u8 0, .int .u8 0, .int .u8 0, .int .u8 0, .int .u8 0, .int .u8 0, .int .u8 0, .int .u8 0])).modify 0 (putFirst errH) } : World) #[.string ByteArray.empty] 8 rfl (by kernel_rfl) (by kernel_rfl) (by kernel_rfl) (by kernel_rfl) (by kernel_rfl) (laidMetH_of_parts (laidMet_of_run3 8 (by kernel_rfl) (by kernel_rfl) (by kernel_rfl)) (by kernel_rfl))) ?_
  intro W base args ds gs before hval0 hW _ _ hL _
  have hval : ∀ (j : Nat) t v, Tryz.f6.params[j]? = some t → args[j]? = some v → Value.okWide Tryz.prog W .any base t v := hval0
  have hW' := hW
  obtain ⟨p, q, hA0, hV0, rfl, hfz, hnd⟩ := hW
  have hA : DataW.TrodAll enc Tryz.prog W 0 (fun _ => true) true Tryz.f6.params.toList args.toList ds p := hA0
  have hV : DataW.TrodVars enc Tryz.prog W (fun _ => true) [] gs q := hV0
  rw [Tryz.params6] at hA hval
  obtain ⟨v0, vs0, d0, ds0, p0, q0, ha0, rfl, rfl, h0, r0⟩ := trodAll_cons hA
  obtain ⟨rfl, rfl, rfl⟩ := trodAll_nil r0
  obtain rfl : args = #[v0] := by cases args; simp_all
  have k0 := h0
  have lt0 : ∀ x ∈ p0, x.block < W.heap.size := by obtain ⟨m, hm⟩ := k0; exact DataW.trod_lt m _ _ _ hm
  obtain ⟨s0, rfl, rfl, rfl, hs0⟩ := open_string Tryz.underlying9 (hval 0 9 v0 rfl rfl) h0
  obtain ⟨hE, hg, ht⟩ := laid8 hL
  obtain ⟨rfl, rfl⟩ : gs = [] ∧ q = [] := by
    cases gs with
    | nil => exact ⟨rfl, hV⟩
    | cons g r => exact absurd hV (by intro h; cases h)
  refine (lawParseOp s0 W hE hg ht ).mono fun e W' ⟨he, hb⟩ => ?_
  subst he
  exact ⟨_, rfl, _, _, _, [], _, [], hW', trodAll_mk1 (shut_bool Tryz.underlying4 _), (trodAll_cons_mk (Below.trod laid_outZ (by kernel_rfl) (of_decide_eq_true (by kernel_rfl)) k0 hb lt0) trodAll_mk0), rfl, hb.kept _, fun h => by cases h⟩

theorem fnExactParseOp_said : Rows.FnExactParseOpSaid :=
  OpenClaim.holds_of_wide 6 Tryz.f6 rfl rfl rfl rfl rfl rfl rfl ⟨rfl, rfl, rfl, rfl, rfl⟩ rfl rfl rfl rfl rfl (by kernel_rfl) Tryz.func6 (by kernel_rfl)
    (of_decide_eq_true (by kernel_rfl)) (by unfold Func.isWrapper; rw [if_neg (of_decide_eq_false (by kernel_rfl))]; exact ⟨rfl, rfl⟩)
    (fun os started H enc _ => fnExactParseOp_lifted os started H enc)

theorem fnExactParseOp_plain (f : FuncId) (fn : Func) (hf : Tryz.pinned.checked.prog.funcNamed "loop.example/g00369/laws.FnExactParseOp" = some f) (hfn : Tryz.pinned.checked.prog.funcs[f]? = some fn) :
    true = Tryz.pinned.checked.prog.looks [] ∧ ∀ (j : Nat) t, fn.params[j]? = some t → Tryz.pinned.checked.prog.wantsStandIn t = false := by
  obtain rfl : f = 6 := Option.some.inj ((show Tryz.prog.funcNamed "loop.example/g00369/laws.FnExactParseOp" = some 6 by kernel_rfl).symm.trans hf) |>.symm
  obtain rfl : fn = Tryz.f6 := (Option.some.inj (Tryz.func6.symm.trans hfn)).symm
  refine ⟨by kernel_rfl, fun j t ht => ?_⟩
  rw [Tryz.params6] at ht
  have w0 : Tryz.prog.wantsStandIn 9 = false := by kernel_rfl
  match j, ht with
  | 0, ht => (obtain rfl : _ = t := Option.some.inj ht); exact w0
  | j + 1, ht => simp at ht

theorem fnExactParseOp_card : Rows.FnExactParseOpCardSaid :=
  Claim7.holds_tied_plain_at .later [] _ _ _ _ fnExactParseOp_said (fun _ h => by cases h) (by kernel_rfl) (fun _ h => by cases h) fnExactParseOp_row_tie rfl ⟨rfl, rfl⟩ (by kernel_rfl) rfl fnExactParseOp_plain (by kernel_rfl)
#print axioms fnExactParseOp_card
end Go.Proofs.YtdjnkchaapcjpaaGreatDoor
