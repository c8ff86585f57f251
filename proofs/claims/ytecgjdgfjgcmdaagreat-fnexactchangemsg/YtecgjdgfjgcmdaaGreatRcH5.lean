/- the fault of a message: its mathematics, and the specification's small functions. -/
import Derived.Test.YtecgjdgfjgcmdaaGreatRcH2
namespace Go.Proofs.YtecgjdgfjgcmdaaGreat
open Go.RowKit
namespace Msg
/-- Do the numbers rise? -/
def rises : List Int → Bool
  | [] => true
  | x :: l => (match l with | [] => true | y :: _ => decide (x < y)) && rises l
theorem rises_all {l : List Int} (h : ∀ (i : Nat) x y, l[i]? = some x → l[i + 1]? = some y → x < y) : rises l = true := by
  induction l with
  | nil => rfl
  | cons a t ih =>
    have h2 := ih (fun i x y hx hy => h (i + 1) x y (by simpa using hx) (by simpa using hy))
    cases t with
    | nil => rfl
    | cons b s => unfold rises; rw [h2]; simpa using h 0 a b rfl rfl
theorem rises_at {l : List Int} (h : rises l = true) : ∀ (i : Nat) x y, l[i]? = some x → l[i + 1]? = some y → x < y := by
  induction l with
  | nil => intro i x y hx; simp at hx
  | cons a t ih =>
    unfold rises at h
    rw [Bool.and_eq_true] at h
    intro i x y hx hy
    cases i with
    | zero =>
      cases t with
      | nil => simp at hy
      | cons b s => simp at hx hy; subst hx hy; simpa using h.1
    | succ n => exact ih h.2 n x y (by simpa using hx) (by simpa using hy)
theorem rises_ne {l : List Int} {i : Nat} {x y : Int} (hx : l[i]? = some x) (hy : l[i + 1]? = some y) (h : ¬ x < y) : rises l = false := by
  cases hr : rises l with
  | false => rfl
  | true => exact absurd (rises_at hr i x y hx hy) h
def bareN (kind slot value : Int) (nc nr : Nat) : Bool := decide (1 ≤ kind ∧ kind ≤ 5 ∧ (kind ≤ 3 ∨ (slot = 0 ∧ value = 0)) ∧ (kind = 4 ∨ nc = 0) ∧ (kind = 5 ∨ nr = 0))
def boundsN (f kind view from_ slot value : Int) : Bool := decide (0 ≤ view ∧ view ≤ 20 ∧ 1 ≤ from_ ∧ from_ ≤ 3 * f + 1 ∧ (kind ≤ 3 → 1 ≤ slot ∧ slot ≤ 30 ∧ 0 ≤ value ∧ value ≤ 12))
def manyN (f : Int) (nc nr : Nat) : Bool := decide (30 < nc ∨ 3 * f + 1 < nr)
def certOk (view : Int) (c : Ct) : Bool := decide (1 ≤ c.slot ∧ c.slot ≤ 30 ∧ 0 ≤ c.view ∧ c.view ≤ view - 1 ∧ 0 ≤ c.value ∧ c.value ≤ 12)
def refOk (r : Int) : Bool := decide (0 ≤ r ∧ r ≤ 239)
def slots (l : List Ct) : List Int := l.map (fun c => c.slot)
theorem slots_at {l : List Ct} {i : Nat} {c : Ct} (h : l[i]? = some c) : (slots l)[i]? = some c.slot := by unfold slots; rw [List.getElem?_map, h]; rfl
def parts (m : Ms) : Bool := m.certs.all (certOk m.view) && m.refs.all refOk
def lists (m : Ms) : Int := if rises (slots m.certs) = false then 1 else if rises m.refs = false then 1 else if parts m = false then 3 else 0
/-- The fault of m, f being right. -/
def faultM (f : Int) (m : Ms) : Int := if bareN m.kind m.slot m.value m.certs.length m.refs.length = false then 1 else if boundsN f m.kind m.view m.from_ m.slot m.value = false then 3 else if manyN f m.certs.length m.refs.length = true then 2 else lists m
def fOk (f : Int) : Bool := decide (1 ≤ f) && decide (f ≤ 2)
def fault (f : Int) (m : Ms) : Int := if fOk f = false then 3 else faultM f m
theorem lists_1 {m : Ms} (h : rises (slots m.certs) = false) : lists m = 1 := by unfold lists; rw [if_pos h]
theorem lists_2 {m : Ms} (h : rises (slots m.certs) = true) (h2 : rises m.refs = false) : lists m = 1 := by unfold lists; rw [if_neg (by simp [h]), if_pos h2]
theorem lists_3 {m : Ms} (h : rises (slots m.certs) = true) (h2 : rises m.refs = true) (h3 : parts m = false) : lists m = 3 := by unfold lists; rw [if_neg (by simp [h]), if_neg (by simp [h2]), if_pos h3]
theorem lists_4 {m : Ms} (h : rises (slots m.certs) = true) (h2 : rises m.refs = true) (h3 : parts m = true) : lists m = 0 := by unfold lists; rw [if_neg (by simp [h]), if_neg (by simp [h2]), if_neg (by simp [h3])]
theorem parts_c {m : Ms} {k : Nat} {c : Ct} (hk : m.certs[k]? = some c) (h : certOk m.view c = false) : parts m = false := by
  unfold parts; rw [Bool.and_eq_false_iff]; left; rw [List.all_eq_false]; exact ⟨c, List.mem_of_getElem? hk, by simp [h]⟩
theorem parts_r {m : Ms} {k : Nat} {r : Int} (hk : m.refs[k]? = some r) (h : refOk r = false) : parts m = false := by
  unfold parts; rw [Bool.and_eq_false_iff]; right; rw [List.all_eq_false]; exact ⟨r, List.mem_of_getElem? hk, by simp [h]⟩
theorem parts_all {m : Ms} (h : ∀ (i : Nat) c, i < m.certs.length → m.certs[i]? = some c → certOk m.view c = true) (h2 : ∀ (i : Nat) r, i < m.refs.length → m.refs[i]? = some r → refOk r = true) : parts m = true := by
  unfold parts; rw [Bool.and_eq_true, List.all_eq_true, List.all_eq_true]
  refine ⟨fun c hc => ?_, fun r hr => ?_⟩
  · obtain ⟨i, hi⟩ := List.getElem?_of_mem hc; exact h i c (List.getElem?_eq_some_iff.1 hi).1 hi
  · obtain ⟨i, hi⟩ := List.getElem?_of_mem hr; exact h2 i r (List.getElem?_eq_some_iff.1 hi).1 hi
end Msg
theorem l1In_isM (v lo hi : Int) (b : Bool) (w : World) (h : (decide (lo ≤ v) && decide (v ≤ hi)) = b) :
    Calls Tryz.prog 57 #[.int .i64 v, .int .i64 lo, .int .i64 hi] w fun e w' => e = .returned (.bool b) ∧ w' = w := by
  rw [← h]; exact l1In_any v lo hi w

set_option maxHeartbeats 20000000 in
set_option maxRecDepth 100000 in
theorem l8Bare_any (kind slot value : Int) (nc nr c c' : Nat) (a a' : Option Addr) (b o : Nat) (w : World) (hp : w.cell? ⟨b, o, none⟩ = some (.int .i64 kind) ∧ w.cell? ⟨b, o + 3, none⟩ = some (.int .i64 slot) ∧ w.cell? ⟨b, o + 4, none⟩ = some (.int .i64 value) ∧ w.cell? ⟨b, o + 5, none⟩ = some (.slice a nc c) ∧ w.cell? ⟨b, o + 6, none⟩ = some (.slice a' nr c')) :
    Calls Tryz.prog 183 #[.pointer (some ⟨b, o, none⟩)] w fun e w' => e = .returned (.bool (Msg.bareN kind slot value nc nr)) ∧ w' = w := by
  obtain ⟨p0, p3, p4, p5, p6⟩ := hp
  by_cases h5 : 1 ≤ kind ∧ kind ≤ 5
  · have b15 : (decide (1 ≤ kind) && decide (kind ≤ 5)) = true := by simp; omega
    by_cases h3 : kind ≤ 3
    · have b13 : (decide (1 ≤ kind) && decide (kind ≤ 3)) = true := by simp; omega
      have k4 : (kind == 4) = false := by simp; omega
      have k5 : (kind == 5) = false := by simp; omega
      by_cases hc : nc = 0
      · have c0 : ((nc : Int) == 0) = true := by simp; omega
        by_cases hr : nr = 0
        · have r0 : ((nr : Int) == 0) = true := by simp; omega
          have HR : Msg.bareN kind slot value nc nr = true := decide_eq_true (by omega)
          rw [HR]
          clear HR
          (try clear hs)
          (try clear hv)
          (try clear hc)
          (try clear hr)
          (try clear h4)
          go_enter Tryz.func183, Tryz.ntmps183
          go_wp2_with fail
          refine (l1In_isM _ _ _ true _ b13).mono ?_
          rintro e w9 ⟨rfl, hw⟩
          rw [hw]
          clear hw w9
          go_wp2_with fail
          refine (l1In_isM _ _ _ _ _ b15).mono ?_
          rintro e w9 ⟨rfl, hw⟩
          rw [hw]
          clear hw w9
          go_wp2
          go_ret
          exact ⟨rfl, rfl⟩
        · have r0 : ((nr : Int) == 0) = false := by simp; omega
          have HR : Msg.bareN kind slot value nc nr = false := decide_eq_false (by omega)
          rw [HR]
          clear HR
          (try clear hs)
          (try clear hv)
          (try clear hc)
          (try clear hr)
          (try clear h4)
          go_enter Tryz.func183, Tryz.ntmps183
          go_wp2_with fail
          refine (l1In_isM _ _ _ true _ b13).mono ?_
          rintro e w9 ⟨rfl, hw⟩
          rw [hw]
          clear hw w9
          go_wp2_with fail
          refine (l1In_isM _ _ _ _ _ b15).mono ?_
          rintro e w9 ⟨rfl, hw⟩
          rw [hw]
          clear hw w9
          go_wp2
          go_ret
          exact ⟨rfl, rfl⟩
      · have c0 : ((nc : Int) == 0) = false := by simp; omega
        have HR : Msg.bareN kind slot value nc nr = false := decide_eq_false (by omega)
        rw [HR]
        clear HR
        (try clear hs)
        (try clear hv)
        (try clear hc)
        (try clear hr)
        (try clear h4)
        go_enter Tryz.func183, Tryz.ntmps183
        go_wp2_with fail
        refine (l1In_isM _ _ _ true _ b13).mono ?_
        rintro e w9 ⟨rfl, hw⟩
        rw [hw]
        clear hw w9
        go_wp2_with fail
        refine (l1In_isM _ _ _ _ _ b15).mono ?_
        rintro e w9 ⟨rfl, hw⟩
        rw [hw]
        clear hw w9
        go_wp2
        go_ret
        exact ⟨rfl, rfl⟩
    · have b13 : (decide (1 ≤ kind) && decide (kind ≤ 3)) = false := by rw [Bool.and_eq_false_iff]; simp; omega
      by_cases h4 : kind = 4
      · have k4 : (kind == 4) = true := by simp; omega
        have k5 : (kind == 5) = false := by simp; omega
        by_cases hs : slot = 0
        · have s0 : (slot == 0) = true := by simp; omega
          by_cases hv : value = 0
          · have v0 : (value == 0) = true := by simp; omega
            by_cases hr : nr = 0
            · have r0 : ((nr : Int) == 0) = true := by simp; omega
              have HR : Msg.bareN kind slot value nc nr = true := decide_eq_true (by omega)
              rw [HR]
              clear HR
              (try clear hs)
              (try clear hv)
              (try clear hc)
              (try clear hr)
              (try clear h4)
              go_enter Tryz.func183, Tryz.ntmps183
              go_wp2_with fail
              refine (l1In_isM _ _ _ false _ b13).mono ?_
              rintro e w9 ⟨rfl, hw⟩
              rw [hw]
              clear hw w9
              go_wp2_with fail
              refine (l1In_isM _ _ _ _ _ b15).mono ?_
              rintro e w9 ⟨rfl, hw⟩
              rw [hw]
              clear hw w9
              go_wp2
              go_ret
              exact ⟨rfl, rfl⟩
            · have r0 : ((nr : Int) == 0) = false := by simp; omega
              have HR : Msg.bareN kind slot value nc nr = false := decide_eq_false (by omega)
              rw [HR]
              clear HR
              (try clear hs)
              (try clear hv)
              (try clear hc)
              (try clear hr)
              (try clear h4)
              go_enter Tryz.func183, Tryz.ntmps183
              go_wp2_with fail
              refine (l1In_isM _ _ _ false _ b13).mono ?_
              rintro e w9 ⟨rfl, hw⟩
              rw [hw]
              clear hw w9
              go_wp2_with fail
              refine (l1In_isM _ _ _ _ _ b15).mono ?_
              rintro e w9 ⟨rfl, hw⟩
              rw [hw]
              clear hw w9
              go_wp2
              go_ret
              exact ⟨rfl, rfl⟩
          · have v0 : (value == 0) = false := by simp; omega
            have HR : Msg.bareN kind slot value nc nr = false := decide_eq_false (by omega)
            rw [HR]
            clear HR
            (try clear hs)
            (try clear hv)
            (try clear hc)
            (try clear hr)
            (try clear h4)
            go_enter Tryz.func183, Tryz.ntmps183
            go_wp2_with fail
            refine (l1In_isM _ _ _ false _ b13).mono ?_
            rintro e w9 ⟨rfl, hw⟩
            rw [hw]
            clear hw w9
            go_wp2_with fail
            refine (l1In_isM _ _ _ _ _ b15).mono ?_
            rintro e w9 ⟨rfl, hw⟩
            rw [hw]
            clear hw w9
            go_wp2
            go_ret
            exact ⟨rfl, rfl⟩
        · have s0 : (slot == 0) = false := by simp; omega
          have HR : Msg.bareN kind slot value nc nr = false := decide_eq_false (by omega)
          rw [HR]
          clear HR
          (try clear hs)
          (try clear hv)
          (try clear hc)
          (try clear hr)
          (try clear h4)
          go_enter Tryz.func183, Tryz.ntmps183
          go_wp2_with fail
          refine (l1In_isM _ _ _ false _ b13).mono ?_
          rintro e w9 ⟨rfl, hw⟩
          rw [hw]
          clear hw w9
          go_wp2_with fail
          refine (l1In_isM _ _ _ _ _ b15).mono ?_
          rintro e w9 ⟨rfl, hw⟩
          rw [hw]
          clear hw w9
          go_wp2
          go_ret
          exact ⟨rfl, rfl⟩
      · have k4 : (kind == 4) = false := by simp; omega
        have k5 : (kind == 5) = true := by simp; omega
        by_cases hs : slot = 0
        · have s0 : (slot == 0) = true := by simp; omega
          by_cases hv : value = 0
          · have v0 : (value == 0) = true := by simp; omega
            by_cases hc : nc = 0
            · have c0 : ((nc : Int) == 0) = true := by simp; omega
              have HR : Msg.bareN kind slot value nc nr = true := decide_eq_true (by omega)
              rw [HR]
              clear HR
              (try clear hs)
              (try clear hv)
              (try clear hc)
              (try clear hr)
              (try clear h4)
              go_enter Tryz.func183, Tryz.ntmps183
              go_wp2_with fail
              refine (l1In_isM _ _ _ false _ b13).mono ?_
              rintro e w9 ⟨rfl, hw⟩
              rw [hw]
              clear hw w9
              go_wp2_with fail
              refine (l1In_isM _ _ _ _ _ b15).mono ?_
              rintro e w9 ⟨rfl, hw⟩
              rw [hw]
              clear hw w9
              go_wp2
              go_ret
              exact ⟨rfl, rfl⟩
            · have c0 : ((nc : Int) == 0) = false := by simp; omega
              have HR : Msg.bareN kind slot value nc nr = false := decide_eq_false (by omega)
              rw [HR]
              clear HR
              (try clear hs)
              (try clear hv)
              (try clear hc)
              (try clear hr)
              (try clear h4)
              go_enter Tryz.func183, Tryz.ntmps183
              go_wp2_with fail
              refine (l1In_isM _ _ _ false _ b13).mono ?_
              rintro e w9 ⟨rfl, hw⟩
              rw [hw]
              clear hw w9
              go_wp2_with fail
              refine (l1In_isM _ _ _ _ _ b15).mono ?_
              rintro e w9 ⟨rfl, hw⟩
              rw [hw]
              clear hw w9
              go_wp2
              go_ret
              exact ⟨rfl, rfl⟩
          · have v0 : (value == 0) = false := by simp; omega
            have HR : Msg.bareN kind slot value nc nr = false := decide_eq_false (by omega)
            rw [HR]
            clear HR
            (try clear hs)
            (try clear hv)
            (try clear hc)
            (try clear hr)
            (try clear h4)
            go_enter Tryz.func183, Tryz.ntmps183
            go_wp2_with fail
            refine (l1In_isM _ _ _ false _ b13).mono ?_
            rintro e w9 ⟨rfl, hw⟩
            rw [hw]
            clear hw w9
            go_wp2_with fail
            refine (l1In_isM _ _ _ _ _ b15).mono ?_
            rintro e w9 ⟨rfl, hw⟩
            rw [hw]
            clear hw w9
            go_wp2
            go_ret
            exact ⟨rfl, rfl⟩
        · have s0 : (slot == 0) = false := by simp; omega
          have HR : Msg.bareN kind slot value nc nr = false := decide_eq_false (by omega)
          rw [HR]
          clear HR
          (try clear hs)
          (try clear hv)
          (try clear hc)
          (try clear hr)
          (try clear h4)
          go_enter Tryz.func183, Tryz.ntmps183
          go_wp2_with fail
          refine (l1In_isM _ _ _ false _ b13).mono ?_
          rintro e w9 ⟨rfl, hw⟩
          rw [hw]
          clear hw w9
          go_wp2_with fail
          refine (l1In_isM _ _ _ _ _ b15).mono ?_
          rintro e w9 ⟨rfl, hw⟩
          rw [hw]
          clear hw w9
          go_wp2
          go_ret
          exact ⟨rfl, rfl⟩
  · have b15 : (decide (1 ≤ kind) && decide (kind ≤ 5)) = false := by rw [Bool.and_eq_false_iff]; simp; omega
    have b13 : (decide (1 ≤ kind) && decide (kind ≤ 3)) = false := by rw [Bool.and_eq_false_iff]; simp; omega
    have HR : Msg.bareN kind slot value nc nr = false := decide_eq_false (by omega)
    rw [HR]
    clear HR
    (try clear hs)
    (try clear hv)
    (try clear hc)
    (try clear hr)
    (try clear h4)
    go_enter Tryz.func183, Tryz.ntmps183
    go_wp2_with fail
    refine (l1In_isM _ _ _ false _ b13).mono ?_
    rintro e w9 ⟨rfl, hw⟩
    rw [hw]
    clear hw w9
    go_wp2_with fail
    refine (l1In_isM _ _ _ _ _ b15).mono ?_
    rintro e w9 ⟨rfl, hw⟩
    rw [hw]
    clear hw w9
    go_wp2
    go_ret
    exact ⟨rfl, rfl⟩

set_option maxHeartbeats 1000000 in
theorem l8F_any (f : Int) (w : World) : Calls Tryz.prog 143 #[.int .i64 f] w fun e w' => e = .returned (.bool (Msg.fOk f)) ∧ w' = w := by
  have HB := l1In_isM f 1 2 (Msg.fOk f) w rfl
  generalize Msg.fOk f = bb at *
  go_enter Tryz.func143, Tryz.ntmps143
  go_wp2_with fail
  refine HB.mono ?_
  rintro e w9 ⟨rfl, hw⟩
  rw [hw]
  clear hw w9
  go_wp2
  go_ret
  exact ⟨rfl, rfl⟩

set_option maxHeartbeats 1000000 in
theorem l8Id_any (f id : Int) (bb : Bool) (w : World) (h0 : 1 ≤ f) (h1 : f ≤ 2) (hb : (decide (1 ≤ id) && decide (id ≤ 3 * f + 1)) = bb) : Calls Tryz.prog 145 #[.int .i64 f, .int .i64 id] w fun e w' => e = .returned (.bool bb) ∧ w' = w := by
  have HB := l1In_isM id 1 (3 * f + 1) bb w hb
  have e1 : IntKind.i64.wrap (3 * f) = 3 * f := by rw [IntKind.wrap_i64]; omega
  have e2 : IntKind.i64.wrap (3 * f + 1) = 3 * f + 1 := by rw [IntKind.wrap_i64]; omega
  go_enter Tryz.func145, Tryz.ntmps145
  go_wp2_with fail
  refine HB.mono ?_
  rintro e w9 ⟨rfl, hw⟩
  rw [hw]
  clear hw w9
  go_wp2
  go_ret
  exact ⟨rfl, rfl⟩
end Go.Proofs.YtecgjdgfjgcmdaaGreat
