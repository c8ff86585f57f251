/- impl.readPath, walked. -/
import Derived.Test.YtmiffefnpendoaaGreatDoorW2
namespace Go.Proofs.YtmiffefnpendoaaGreatDoor
open Go.RowKit

def rpMany : Value := .tuple #[.agg #[.int .i64 0, .int .i64 0], .iface 154 (.agg #[.int .i64 2])]
def rpText : Value := .tuple #[.agg #[.int .i64 0, .int .i64 0], .iface 154 (.agg #[.int .i64 5])]
def rpShape (n la : Nat) : Value := .tuple #[.agg #[.int .i64 n, .int .i64 la], .nilIface]
theorem below2 (w : World) (o o' : Obj) : Below w.heap.size w ((w.alloc o).alloc o') := ((Below.refl _ _).alloc (Nat.le_refl _) _).alloc (by simp) _

set_option maxHeartbeats 1000000 in
set_option maxRecDepth 100000 in
theorem readPath_many (s : ByteArray) (w : World) (hm : Pth.many s.data.toList = true) :
    Calls Tryz.prog 55 #[.string s] w fun e w' => e = .returned rpMany ∧ Below w.heap.size w w' := by
  go_enter Tryz.func55, Tryz.ntmps55
  go_wp2
  go_step3
  go_wp2_with (first | (go_at_call 114; refine (tooMany_any _ _).mono ?_; rintro e w' ⟨rfl, rfl⟩))
  rw [Exit.noGoto_ret]
  exact bodyPost_ret (v := rpMany) (by simp [results, Tryz.results55, go_sem, rpMany]) rfl ⟨rfl, below2 _ _ _⟩

set_option maxHeartbeats 4000000 in
set_option maxRecDepth 100000 in
theorem readPath_few (s : ByteArray) (w : World) (hm : Pth.many s.data.toList = false) :
    Calls Tryz.prog 55 #[.string s] w fun e w' => ((Pth.rd s.data.toList = none ∧ e = .returned rpText) ∨ (∃ n la, Pth.rd s.data.toList = some (n, la) ∧ e = .returned (rpShape n la))) ∧ Below w.heap.size w w' := by
  have h24 : s.size ≤ 24 := by
    unfold Pth.many at hm
    simp only [Bool.or_eq_false_iff, decide_eq_false_iff_not, len_eq] at hm
    omega
  go_enter Tryz.func55, Tryz.ntmps55
  go_wp2
  refine wp_scope4 (Frm s w (Rwrong s.data.toList)) (Frm s w (Rslash s.data.toList)) (Frm s w (Rdone s.data.toList)) (Frm s w (Rname s.data.toList))
    (fun l a _ => match l with | 3 => 4 * (s.size - (intOf (a.tmps.getD 5 undef)).toNat) + 2 | 1 => 4 * (s.size - (intOf (a.tmps.getD 5 undef)).toNat) + 1 | _ => 0) rfl rfl rfl rfl ?p0 ?p2 ?p3 ?p1 ?first
  case p0 =>
    rintro a w' ⟨at_, last, names, u1, u6, u7, u8, u9, u10, u11, u12, u13, u14, u15, u16, u17, u18, u19, u20, u21, u22, u23, u24, u25, u26, u27, u28, u29, u30, u31, u32, u33, u34, u35, u36, u37, u38, u39, u40, u41, u42, u43, u44, u45, u46, u47, u48, u49, u50, u51, u52, u53, u54, u55, u56, u57, u58, u59, u60, u61, u62, u63, rfl, rfl,  hr⟩
    go_wp2
    rw [jumped_ret]
    exact bodyPost_ret (v := rpText) (by simp [results, Tryz.results55, go_sem, rpText]) rfl ⟨.inl ⟨hr, rfl⟩, below2 _ _ _⟩
  case p2 =>
    rintro a w' ⟨at_, last, names, u1, u6, u7, u8, u9, u10, u11, u12, u13, u14, u15, u16, u17, u18, u19, u20, u21, u22, u23, u24, u25, u26, u27, u28, u29, u30, u31, u32, u33, u34, u35, u36, u37, u38, u39, u40, u41, u42, u43, u44, u45, u46, u47, u48, u49, u50, u51, u52, u53, u54, u55, u56, u57, u58, u59, u60, u61, u62, u63, rfl, rfl,  hr⟩
    go_wp2
    rw [jumped_ret]
    exact bodyPost_ret (v := rpShape names last) (by simp [results, Tryz.results55, go_sem, rpShape]) rfl ⟨.inr ⟨_, _, hr, rfl⟩, below2 _ _ _⟩
  case p3 =>
    rintro a w' ⟨at_, last, names, u1, u6, u7, u8, u9, u10, u11, u12, u13, u14, u15, u16, u17, u18, u19, u20, u21, u22, u23, u24, u25, u26, u27, u28, u29, u30, u31, u32, u33, u34, u35, u36, u37, u38, u39, u40, u41, u42, u43, u44, u45, u46, u47, u48, u49, u50, u51, u52, u53, u54, u55, u56, u57, u58, u59, u60, u61, u62, u63, rfl, rfl,  hr⟩
    have ra : at_ ≤ s.size := hr.1
    have rb : last ≤ at_ := hr.2.1
    by_cases h1 : at_ < s.size
    · by_cases h2 : at_ < last + 8
      · cases h3 : nbI (s[at_].toNat : Int)
        · by_cases h5 : at_ = last
          · subst h5
            go_wp2_with (first | (go_at_call 115; refine (isNameByte_any _ _).mono ?_; rintro e w' ⟨rfl, rfl⟩))
            go_step3
            exact And.intro (show Frm s w (Rwrong s.data.toList) _ _ from ⟨at_, at_, names, _, _, _, _, _, _, _, _, _, _, _, _, _, _, _, _, _, _, _, _, _, _, _, _, _, _, _, _, _, _, _, _, _, _, _, _, _, _, _, _, _, _, _, _, _, _, _, _, _, _, _, _, _, _, _, _, _, _, _, rfl, rfl, name_none s at_ names hr (by rintro ⟨_, _, _, x⟩; rw [h3] at x; cases x)⟩) (by simp [intOf])
          · have h6 : ((at_ : Int) == (last : Int)) = false := by simp; omega
            go_wp2_with (first | (go_at_call 115; refine (isNameByte_any _ _).mono ?_; rintro e w' ⟨rfl, rfl⟩))
            go_step3
            exact And.intro (show Frm s w (Rslash s.data.toList) _ _ from ⟨at_, last, names, _, _, _, _, _, _, _, _, _, _, _, _, _, _, _, _, _, _, _, _, _, _, _, _, _, _, _, _, _, _, _, _, _, _, _, _, _, _, _, _, _, _, _, _, _, _, _, _, _, _, _, _, _, _, _, _, _, _, _, rfl, rfl, name_slash s at_ last names h1 h5 hr (fun _ => h3)⟩) (by simp [intOf])
        · go_wp2_with (first | (go_at_call 115; refine (isNameByte_any _ _).mono ?_; rintro e w' ⟨rfl, rfl⟩))
          go_step3
          exact And.intro (show Frm s w (Rname s.data.toList) _ _ from ⟨at_ + 1, last, names, _, _, _, _, _, _, _, _, _, _, _, _, _, _, _, _, _, _, _, _, _, _, _, _, _, _, _, _, _, _, _, _, _, _, _, _, _, _, _, _, _, _, _, _, _, _, _, _, _, _, _, _, _, _, _, _, _, _, _, rfl, rfl, name_on s at_ last names h1 h2 h3 hr⟩) (by simp [intOf]; omega)
      · have h5 : ¬ at_ = last := by omega
        go_wp2_with (first | (go_at_call 115; refine (isNameByte_any _ _).mono ?_; rintro e w' ⟨rfl, rfl⟩))
        go_step3
        exact And.intro (show Frm s w (Rslash s.data.toList) _ _ from ⟨at_, last, names, _, _, _, _, _, _, _, _, _, _, _, _, _, _, _, _, _, _, _, _, _, _, _, _, _, _, _, _, _, _, _, _, _, _, _, _, _, _, _, _, _, _, _, _, _, _, _, _, _, _, _, _, _, _, _, _, _, _, _, rfl, rfl, name_slash s at_ last names h1 h5 hr (fun x => absurd x h2)⟩) (by simp [intOf])
    · by_cases h5 : at_ = last
      · subst h5
        go_wp2_with (first | (go_at_call 115; refine (isNameByte_any _ _).mono ?_; rintro e w' ⟨rfl, rfl⟩))
        go_step3
        exact And.intro (show Frm s w (Rwrong s.data.toList) _ _ from ⟨at_, at_, names, _, _, _, _, _, _, _, _, _, _, _, _, _, _, _, _, _, _, _, _, _, _, _, _, _, _, _, _, _, _, _, _, _, _, _, _, _, _, _, _, _, _, _, _, _, _, _, _, _, _, _, _, _, _, _, _, _, _, _, rfl, rfl, name_none s at_ names hr (fun x => h1 x.1)⟩) (by simp [intOf])
      · have h6 : ((at_ : Int) == (last : Int)) = false := by simp; omega
        go_wp2_with (first | (go_at_call 115; refine (isNameByte_any _ _).mono ?_; rintro e w' ⟨rfl, rfl⟩))
        go_step3
        go_wp2
        rw [jumped_ret]
        exact bodyPost_ret (v := rpShape names last) (by simp [results, Tryz.results55, go_sem, rpShape]) rfl ⟨.inr ⟨_, _, name_done s at_ last names h1 h5 hr, rfl⟩, below2 _ _ _⟩
  case p1 =>
    rintro a w' ⟨at_, last, names, u1, u6, u7, u8, u9, u10, u11, u12, u13, u14, u15, u16, u17, u18, u19, u20, u21, u22, u23, u24, u25, u26, u27, u28, u29, u30, u31, u32, u33, u34, u35, u36, u37, u38, u39, u40, u41, u42, u43, u44, u45, u46, u47, u48, u49, u50, u51, u52, u53, u54, u55, u56, u57, u58, u59, u60, u61, u62, u63, rfl, rfl,  hr⟩ hp3
    have ra : at_ ≤ s.size := hr.1
    have rn : names ≤ at_ := hr.2.1
    by_cases h1 : at_ < s.size
    · have e1 : ((at_ : Int) == (s.size : Int)) = false := by simp; omega
      by_cases h2 : s[at_] = 47
      · by_cases h3 : s.size = 1
        · have H3 : Hid (s.size = 1) := h3
          have e3 : ((s.size : Int) == 1) = true := by simp [h3]
          clear h3
          go_wp2
          go_step3
          exact And.intro (show Frm s w (Rdone s.data.toList) _ _ from ⟨at_ + 1, last, names, _, _, _, _, _, _, _, _, _, _, _, _, _, _, _, _, _, _, _, _, _, _, _, _, _, _, _, _, _, _, _, _, _, _, _, _, _, _, _, _, _, _, _, _, _, _, _, _, _, _, _, _, _, _, _, _, _, _, _, rfl, rfl, slash_top s at_ last names hr h1 h2 H3.out⟩) (by simp [intOf])
        · have e3 : ((s.size : Int) == 1) = false := by simp; omega
          have HP : Hid _ := hp3
          clear hp3
          go_wp2
          go_step3
          rename_i hK
          refine hK _ _ ?_
          refine HP.out _ _ ?_ ?_
          · exact ⟨at_ + 1, at_ + 1, names + 1, _, _, _, _, _, _, _, _, _, _, _, _, _, _, _, _, _, _, _, _, _, _, _, _, _, _, _, _, _, _, _, _, _, _, _, _, _, _, _, _, _, _, _, _, _, _, _, _, _, _, _, _, _, _, _, _, _, _, _, rfl, rfl, slash_name s at_ last names hr h1 h2 h3⟩
          · simp [intOf]; omega
      · have e2 : ((s[at_].toNat : Int) != 47) = true := by
          rw [bne_iff_ne]; intro x; apply h2; apply UInt8.toNat_inj.1; show s[at_].toNat = 47; omega
        go_wp2
        go_step3
        exact And.intro (show Frm s w (Rwrong s.data.toList) _ _ from ⟨at_, last, names, _, _, _, _, _, _, _, _, _, _, _, _, _, _, _, _, _, _, _, _, _, _, _, _, _, _, _, _, _, _, _, _, _, _, _, _, _, _, _, _, _, _, _, _, _, _, _, _, _, _, _, _, _, _, _, _, _, _, _, rfl, rfl, slash_wrong s at_ last names hr (fun _ => h2) (.inr h1)⟩) (by simp [intOf])
    · have h2 : at_ = s.size := by omega
      have e1 : ((at_ : Int) == (s.size : Int)) = true := by simp [h2]
      have H2 : Hid (at_ = s.size) := h2
      clear h2
      go_wp2
      go_step3
      exact And.intro (show Frm s w (Rwrong s.data.toList) _ _ from ⟨at_, last, names, _, _, _, _, _, _, _, _, _, _, _, _, _, _, _, _, _, _, _, _, _, _, _, _, _, _, _, _, _, _, _, _, _, _, _, _, _, _, _, _, _, _, _, _, _, _, _, _, _, _, _, _, _, _, _, _, _, _, _, rfl, rfl, slash_wrong s at_ last names hr (fun x => absurd x h1) (.inl H2.out)⟩) (by simp [intOf])
  case first =>
    intro h1
    have HP : Hid _ := h1
    clear h1
    go_wp2_with (first | (go_at_call 114; refine (tooMany_any _ _).mono ?_; rintro e w' ⟨rfl, rfl⟩))
    go_step3
    rename_i hK
    refine hK _ _ ?_
    refine HP.out _ _ ?_
    exact ⟨0, 0, 0, _, _, _, _, _, _, _, _, _, _, _, _, _, _, _, _, _, _, _, _, _, _, _, _, _, _, _, _, _, _, _, _, _, _, _, _, _, _, _, _, _, _, _, _, _, _, _, _, _, _, _, _, _, _, _, _, _, _, _, rfl, rfl, slash_start s.data.toList⟩
end Go.Proofs.YtmiffefnpendoaaGreatDoor
