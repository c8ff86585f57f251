/- E5, E6, E7a, E7, in one text. -/
import Derived.Test.YtpdejinkmnhioaaGreatDoorAoJ15
import Derived.Maps.OwnSet
import Derived.Maps.OwnOps
import Derived.Shelf.SlIterI.Sorted
import Derived.Shelf.SortM.Plain
import Derived.Shelf.SortM.SortNone
import Derived.Test.YtpdejinkmnhioaaGreatDoorProg
import Derived.Test.YtpdejinkmnhioaaGreatDoorAoJ3
import Derived.Deep.Onto
import Derived.Test.YtpdejinkmnhioaaGreatDoorAoMk
namespace Go.Proofs.YtpdejinkmnhioaaGreatDoor
open Go.RowKit
set_option maxHeartbeats 1000000 in
theorem upTo_any (n m:Int) (w:World):Calls Tryz.prog 90 #[.int .i64 n,.int .i64 m] w fun e w'=>e = .returned (.bool (decide (0≤n) && decide (n≤m)))∧w'=w:=by
  by_cases h0:0≤n
  · by_cases h1:n≤m
    · exact m73z
    · exact m77z
  · exact m76z
set_option maxHeartbeats 1000000 in
theorem isSessionId_any (n:Int) (w:World):Calls Tryz.prog 162 #[.int .i64 n] w fun e w'=>e = .returned (.bool (Ses.idOk n))∧w'=w:=by
  by_cases h0:n=0
  · subst h0
    go_enter Tryz.func162,Tryz.ntmps162
    go_wp2
    go_ret
    exact⟨rfl,rfl⟩
  · have HU:Hid (∀ wx:World,Calls Tryz.prog 90 #[.int .i64 n,.int .i64 9] wx fun e w'=>e = .returned (.bool (Ses.idOk n))∧w'=wx):=fun wx=>by
      have h:=upTo_any n 9 wx
      rw [show (decide (0≤n) && decide (n≤9))=Ses.idOk n from by unfold Ses.idOk;rw [show decide (0≤n)=decide (1≤n) from by congr 1;simp;omega]] at h
      exact h
    go_enter Tryz.func162,Tryz.ntmps162
    go_wp2_with fail
    refine (HU.out _).mono ?_
    rintro e w' ⟨rfl,rfl⟩
    go_wp2
    go_ret
    exact⟨ret_bool (by simp [h0]),rfl⟩
set_option maxHeartbeats 2000000 in
set_option maxRecDepth 100000 in
theorem implSessionsFault_any (v:Value) (l:List Se) (w:World) (hS:ESlice w v l) :
    Calls Tryz.prog 89 #[v] w fun e w'=>e = .returned (.int .i64 (Ses.fault l))∧Ext w w':=by
  obtain⟨a,cap,rfl,hlc,hcm,hx⟩:=hS
  refine n54z ?_
  intro HX
  clear hx
  unfold maxLen at hcm
  by_cases h6:6 < l.length
  · have HF:Hid (Ses.fault l=2):=by show _=_;unfold Ses.fault;rw [if_pos h6]
    go_enter Tryz.func89,Tryz.ntmps89
    go_wp2
    go_ret
    exact⟨ret_int HF.out.symm,Ext.refl _⟩
  · have HF:Hid (Ses.fault l=Ses.from 0 l):=by show _=_;unfold Ses.fault;rw [if_neg h6]
    go_enter Tryz.func89,Tryz.ntmps89
    go_wp2
    go_loopw [3,11] (fun av i wr=>∃ (k:Nat) (p:Int),k≤l.length∧i = .int .i64 k∧av = .int .i64 p∧Hid (Ses.from p (l.drop k)=Ses.from 0 l)∧Hid (Ext w wr)) (fun _ i _=>l.length - (intOf i).toNat)
    case atStart=>exact⟨0,0,Nat.zero_le _,rfl,rfl,rfl,Ext.refl _⟩
    case round =>
      obtain⟨k,p,hk,rfl,rfl,HA,HE⟩:=hrel
      by_cases hlt:k < l.length
      · obtain⟨s,hsk⟩:∃ s,l[k]?=some s:=⟨_,List.getElem?_eq_getElem hlt⟩
        obtain⟨b,off,rfl,hb,hN⟩:=HX.out (by omega)
        obtain⟨d0,d1⟩:=hN.ext hb HE.out k s hsk
        have hat:=Ses.from_at p hsk
        have HI:Hid (∀ wx:World,Calls Tryz.prog 162 #[.int .i64 s.id] wx fun e w'=>e = .returned (.bool (Ses.idOk s.id))∧w'=wx):=isSessionId_any s.id
        have HT:Hid (∀ wx:World,Calls Tryz.prog 90 #[.int .i64 s.til,.int .i64 9999] wx fun e w'=>e = .returned (.bool (Ses.tilOk s.til))∧w'=wx):=fun wx=>upTo_any _ _ _
        cases hi:Ses.idOk s.id with
        | false =>
          have HR:Hid (Ses.fault l=3):=by show _=_;rw [HF.out,← HA.out,hat,if_pos (by rw [Ses.ok_eq,hi];rfl)]
          rw [hi] at HI
          clear hat hi hN hsk
          go_wp2_with fail
          refine (HI.out _).mono ?_
          rintro e w' ⟨rfl,rfl⟩
          go_wp2
          go_ret
          exact⟨ret_int HR.out.symm,by first | exact HE.out | exact HE.out.alloc _⟩
        | true =>
          rw [hi] at HI
          cases ht:Ses.tilOk s.til with
          | false =>
            have HR:Hid (Ses.fault l=3):=by show _=_;rw [HF.out,← HA.out,hat,if_pos (by rw [Ses.ok_eq,hi,ht];rfl)]
            rw [ht] at HT
            exact m59z
          | true =>
            rw [if_neg (by rw [Ses.ok_eq,hi,ht];simp)] at hat
            rw [ht] at HT
            by_cases hle:s.id≤p
            · have HR:Hid (Ses.fault l=1):=by show _=_;rw [HF.out,← HA.out,hat,if_pos hle]
              exact m59z
            · have HA2:Hid (Ses.from s.id (l.drop (k+1))=Ses.from 0 l):=by show _=_;rw [← HA.out,hat,if_neg hle]
              clear hat hi ht hN hsk
              go_wp2_with fail
              refine (HI.out _).mono ?_
              rintro e w' ⟨rfl,rfl⟩
              go_wp2_with fail
              refine (HT.out _).mono ?_
              rintro e w' ⟨rfl,rfl⟩
              go_wp2
              exact⟨⟨k+1,s.id,by omega,by go_num,rfl,HA2,by first | exact HE.out | exact HE.out.alloc _⟩,by simp [intOf];omega⟩
      · have HR:Hid (Ses.fault l=0):=by
          show _=_
          rw [HF.out,← HA.out,List.drop_of_length_le (by omega),Ses.from]
        go_wp2
        go_ret
        exact⟨ret_int HR.out.symm,HE.out⟩
/-- The code of a moment. -/
def Ses.moment (l:List Se) (n:Int):Int:=if Ses.fault l≠0 then Ses.fault l else if Ses.nowOk n=true then 0 else 3
theorem Ses.asked_moment (l:List Se) (i n:Int):Ses.asked l i n=if Ses.moment l n≠0 then Ses.moment l n else if Ses.idOk i=true then 0 else 3:=by
  unfold Ses.asked Ses.moment
  by_cases h:Ses.fault l≠0
  · rw [if_pos h,if_pos h,if_pos h]
  · rw [if_neg h,if_neg h]
    cases Ses.nowOk n <;> cases Ses.idOk i <;> simp
set_option maxHeartbeats 1000000 in
theorem momentFault_any (v:Value) (l:List Se) (n:Int) (w:World) (hS:ESlice w v l) :
    Calls Tryz.prog 204 #[v,.int .i64 n] w fun e w'=>e = .returned (.int .i64 (Ses.moment l n))∧Ext w w':=by
  have HF:Hid (Calls Tryz.prog 89 #[v] w fun e w'=>e = .returned (.int .i64 (Ses.fault l))∧Ext w w'):=implSessionsFault_any v l w hS
  have HN:Hid (∀ wx:World,Calls Tryz.prog 90 #[.int .i64 n,.int .i64 9000] wx fun e w'=>e = .returned (.bool (Ses.nowOk n))∧w'=wx):=fun wx=>upTo_any _ _ _
  obtain⟨a,cap,rfl,-⟩:=hS
  unfold Ses.moment
  by_cases hc:Ses.fault l≠0
  · rw [if_pos hc]
    generalize Ses.fault l=c at *
    go_enter Tryz.func204,Tryz.ntmps204
    go_wp2_with fail
    refine HF.out.mono ?_
    exact m22z
  · rw [if_neg hc]
    have hc0:Ses.fault l=0:=by omega
    rw [hc0] at HF
    clear hc hc0
    cases hn:Ses.nowOk n with
    | false =>
      rw [hn] at HN
      rw [if_neg (by simp)]
      clear hn
      go_enter Tryz.func204,Tryz.ntmps204
      exact m27z
    | true =>
      rw [hn] at HN
      rw [if_pos rfl]
      clear hn
      go_enter Tryz.func204,Tryz.ntmps204
      exact m27z
set_option maxHeartbeats 1000000 in
theorem sessionFault_any (v:Value) (l:List Se) (i n:Int) (w:World) (hS:ESlice w v l) :
    Calls Tryz.prog 211 #[v,.int .i64 i,.int .i64 n] w fun e w'=>e = .returned (.int .i64 (Ses.asked l i n))∧Ext w w':=by
  have HF:Hid (Calls Tryz.prog 204 #[v,.int .i64 n] w fun e w'=>e = .returned (.int .i64 (Ses.moment l n))∧Ext w w'):=momentFault_any v l n w hS
  have HN:Hid (∀ wx:World,Calls Tryz.prog 162 #[.int .i64 i] wx fun e w'=>e = .returned (.bool (Ses.idOk i))∧w'=wx):=isSessionId_any i
  obtain⟨a,cap,rfl,-⟩:=hS
  rw [Ses.asked_moment]
  by_cases hc:Ses.moment l n≠0
  · rw [if_pos hc]
    generalize Ses.moment l n=c at *
    go_enter Tryz.func211,Tryz.ntmps211
    go_wp2_with fail
    refine HF.out.mono ?_
    exact m22z
  · rw [if_neg hc]
    have hc0:Ses.moment l n=0:=by omega
    rw [hc0] at HF
    clear hc hc0
    cases hn:Ses.idOk i with
    | false =>
      rw [hn] at HN
      rw [if_neg (by simp)]
      clear hn
      go_enter Tryz.func211,Tryz.ntmps211
      exact m27z
    | true =>
      rw [hn] at HN
      rw [if_pos rfl]
      clear hn
      go_enter Tryz.func211,Tryz.ntmps211
      exact m27z
end Go.Proofs.YtpdejinkmnhioaaGreatDoor
namespace Go.Proofs.YtpdejinkmnhioaaGreatDoor
open Go.RowKit Go.Maps
theorem law64:Keyed Tryz.prog 2:=int_keyed Tryz.underlying2
theorem zero64 (w:World):(zeroValue 2).run Tryz.prog w = .ok (.int .i64 0) w:=by kernel_rfl
/-- Block b holds a map of the sessions l. -/
def EMap (w:World) (b n:Nat) (l:List Se):Prop:=w.ownsMap Tryz.prog 2 (plainElem (H:=Unit) Tryz.prog 2) b n (mapE l)
theorem EMap.lt {w:World} {b n:Nat} {l:List Se} (h:EMap w b n l):b < w.heap.size:=World.ownsMap.lt h
theorem EMap.ext {w w' : World} {b n:Nat} {l:List Se} (h:EMap w b n l) (he:Ext w w'):EMap w' b n l:=by
  have hlt:=h.lt
  obtain⟨es,clock,hb,F,hs,hD⟩:=h
  exact⟨es,clock,(Below.block he b hlt).trans hb,F,hs,hD⟩
theorem wf64 {n:Int} (h : -100000≤n∧n≤100000):(Lit.int .i64 n).wf=true:=WalkArith.wf_i64 (by omega)
theorem key64 {n:Int} (h : -100000≤n∧n≤100000):keyOf Tryz.prog 2 (.int .i64 n)=some (.int .i64 n):=keyOf_int_mk Tryz.underlying2 (wf64 h)
theorem make_roll (n:Int) (w:World):(Instr.makeMap 267 (some (.int .i64 n))).run Tryz.prog w = .ok (.map (some w.heap.size)) (w.alloc (.map #[] 0)):=by
  simp [Instr.makeMap,run_underlying Tryz.underlying267,asInt,go_sem]
set_option maxHeartbeats 2000000 in
set_option maxRecDepth 100000 in
theorem rollOf_any (v:Value) (l:List Se) (w:World) (hS:ESlice w v l) (h6:l.length≤6) (hr:Rises l) (ho:∀ s ∈ l,Ses.ok s=true) :
    Calls Tryz.prog 205 #[v] w fun e w'=>∃ b,e = .returned (.map (some b))∧w.heap.size≤b∧EMap w' b l.length l∧Ext w w':=by
  obtain⟨a,cap,rfl,hlc,hcm,hx⟩:=hS
  refine n54z ?_
  intro HX
  have HO:Hid (Rises l∧∀ s ∈ l,Ses.ok s=true):=⟨hr,ho⟩
  clear hx hr ho
  unfold maxLen at hcm
  have hmk:=make_roll
  go_enter Tryz.func205,Tryz.ntmps205
  go_wp2
  go_loopw [11] (fun i wr=>∃ (k:Nat),k≤l.length∧i = .int .i64 k∧Hid (EMap wr w.heap.size k (l.take k))∧Hid (Ext w wr)) (fun i _=>l.length - (intOf i).toNat)
  case atStart=>exact⟨0,Nat.zero_le _,rfl,World.ownsMap_made _ _ _ _,(Ext.refl _).alloc _⟩
  case round =>
    obtain⟨k,hk,rfl,HM,HE⟩:=hrel
    by_cases hlt:k < l.length
    · obtain⟨s,hsk⟩:∃ s,l[k]?=some s:=⟨_,List.getElem?_eq_getElem hlt⟩
      obtain⟨b,off,rfl,hb,hN⟩:=HX.out (by omega)
      obtain⟨d0,d1⟩:=hN.ext hb HE.out k s hsk
      have hos:=Ses.ok_iff.1 (HO.out.2 s (List.mem_of_getElem? hsk))
      have hkey:keyOf Tryz.prog 2 (.int .i64 s.id)=some (.int .i64 s.id):=key64 (by omega)
      have hval:plainElem (H:=Unit) Tryz.prog 2 (.int .i64 s.til)=some (.lit (.int .i64 s.til),[]):=plainElem_int Tryz.underlying2 (wf64 (by omega))
      have hput:(mapE (l.take k)).put (.int .i64 s.id) (.lit (.int .i64 s.til))=mapE (l.take (k+1)):=by rw [mapE_put s _ (HO.out.1.sublist (List.take_sublist _ _)),put_last HO.out.1 hsk]
      clear hN hsk
      go_wp2_with (at_mapUpdate;refine wpList_mapUpdate_own _ rfl _ _ _ 267 rfl 2 2 law64 Tryz.underlying267 _ w.heap.size k _ rfl (World.ownsMap.alloc HM.out _) (by unfold maxLen;omega) _ _ _ rfl rfl hkey _ [] hval ?_;intro w1 hown1 hgrow1)
      exact⟨⟨k+1,by omega,by go_num,by rw [hput] at hown1;exact hown1,Below.grown (HE.out.alloc _) hgrow1 (HE.out.alloc _).size (fun j hj=>by cases hj;exact Nat.le_refl _)⟩,by simp [intOf];omega⟩
    · have hke:k=l.length:=by omega
      subst hke
      go_wp2
      go_ret
      exact⟨_,rfl,Nat.le_refl _,by have:=HM.out;rw [List.take_length] at this;exact this,HE.out⟩
set_option maxHeartbeats 1000000 in
set_option maxRecDepth 100000 in
theorem isLive_any (b n:Nat) (l:List Se) (i now:Int) (w:World) (hM:EMap w b n l) (hi : -100000≤i∧i≤100000) :
    Calls Tryz.prog 206 #[.map (some b),.int .i64 i,.int .i64 now] w fun e w'=>e = .returned (.bool (Ses.live l i now))∧w'=w:=by
  have hkey:=key64 hi
  have hhas:Maps.has (mapE l) (.int .i64 i)=hasE l i:=mapE_has l i
  have hatt:=mapE_at l i
  unfold Ses.live
  cases hh:hasE l i with
  | false =>
    rw [hh] at hhas
    rw [Bool.false_and]
    go_enter Tryz.func206,Tryz.ntmps206
    go_wp2_with (at_lookup;refine wpList_lookup_own_ok_int _ rfl _ _ 267 rfl 2 2 .i64 law64 Tryz.underlying267 Tryz.underlying2 (zero64 _) b n _ rfl hM _ _ rfl hkey ?_;intro c hat hwc;rw [hhas])
    go_ret
    exact⟨rfl,rfl⟩
  | true =>
    rw [hh] at hhas
    rw [Bool.true_and]
    generalize tilE l i=t at *
    go_enter Tryz.func206,Tryz.ntmps206
    go_wp2_with (at_lookup;refine wpList_lookup_own_ok_int _ rfl _ _ 267 rfl 2 2 .i64 law64 Tryz.underlying267 Tryz.underlying2 (zero64 _) b n _ rfl hM _ _ rfl hkey ?_;intro c hat hwc;rw [hhas];rw [hatt] at hat;simp only [DataW.lit.injEq,Lit.int.injEq,true_and] at hat;rw [← hat];clear hat hwc)
    go_ret
    exact⟨rfl,rfl⟩
set_option maxHeartbeats 1000000 in
theorem implLiveSession_any (v:Value) (l:List Se) (i n:Int) (w:World) (hS:ESlice w v l) :
    Calls Tryz.prog 191 #[v,.int .i64 i,.int .i64 n] w fun e w'=>e = .returned (.bool (Ses.liveV l i n))∧Ext w w':=by
  have HS:Hid (ESlice w v l):=hS
  have HF:Hid (Calls Tryz.prog 211 #[v,.int .i64 i,.int .i64 n] w fun e w'=>e = .returned (.int .i64 (Ses.asked l i n))∧Ext w w'):=sessionFault_any v l i n w hS
  obtain⟨a,cap,rfl,-⟩:=hS
  unfold Ses.liveV
  by_cases hc:Ses.asked l i n=0
  · obtain⟨hf,hi,-⟩:=Ses.asked_zero hc
    refine n65z ?_
    intro h6 hr ho HR
    have HL:Hid (∀ (b:Nat) (wx:World),EMap wx b l.length l→Calls Tryz.prog 206 #[.map (some b),.int .i64 i,.int .i64 n] wx fun e w'=>e = .returned (.bool (Ses.live l i n))∧w'=wx):=fun b wx h=>isLive_any b _ l i n wx h (by omega)
    rw [hc] at HF ⊢
    rw [decide_eq_true rfl,Bool.true_and]
    clear hc hf hr ho
    generalize Ses.live l i n=B at *
    go_enter Tryz.func191,Tryz.ntmps191
    go_wp2_with fail
    refine HF.out.mono ?_
    rintro e w2 ⟨rfl,hb⟩
    have HB:Hid (Ext w w2):=hb
    clear hb
    go_wp2_with fail
    refine (HR.out _ HB.out).mono ?_
    rintro e w3 ⟨b,rfl,-,hM,hb⟩
    have HM:Hid (EMap w3 b l.length l):=hM
    have HB3:Hid (Ext w w3):=HB.out.trans hb
    clear hb hM
    go_wp2_with fail
    refine (HL.out _ _ HM.out).mono ?_
    rintro e w4 ⟨rfl,rfl⟩
    go_wp2
    go_ret
    exact⟨rfl,HB3.out⟩
  · rw [decide_eq_false hc,Bool.false_and]
    generalize Ses.asked l i n=c at *
    go_enter Tryz.func191,Tryz.ntmps191
    go_wp2_with fail
    refine HF.out.mono ?_
    exact m22z
end Go.Proofs.YtpdejinkmnhioaaGreatDoor
namespace Go.Proofs.YtpdejinkmnhioaaGreatDoor
open Go.RowKit Go.Maps Go.Sort Go.Shelf
def keysA_ren:Go.Shelf.Ren:=⟨fun | 7=>242 | 10=>263 | n=>n,fun | 23=>267 | 26=>2 | 3=>2 | 28=>296 | 0=>0 | 27=>295 | 33=>91 | 4=>4 | n=>n,fun | n=>n⟩
theorem keysA:Go.Proofs.SlLaysZI.n7 Tryz.prog keysA_ren:={
  mixed:=by kernel_rfl
  f7:=⟨Tryz.f242.name,by decide,Tryz.func242.trans (congrArg some (by kernel_rfl))⟩
  f10:=⟨Tryz.f263.name,by decide,Tryz.func263.trans (congrArg some (by kernel_rfl))⟩
  t0:=Tryz.underlying0
  a0:=Tryz.isAgg0
  z0:=Tryz.sizeOf0
  v0:=Tryz.zeroValue0
  t4:=Tryz.underlying4
  a4:=Tryz.isAgg4
  z4:=Tryz.sizeOf4
  v4:=Tryz.zeroValue4
  t23:=Tryz.underlying267
  a23:=Tryz.isAgg267
  z23:=Tryz.sizeOf267
  v23:=Tryz.zeroValue267
  t26:=Tryz.underlying2
  a26:=Tryz.isAgg2
  z26:=Tryz.sizeOf2
  v26:=Tryz.zeroValue2
  t27:=Tryz.underlying295
  a27:=Tryz.isAgg295
  z27:=Tryz.sizeOf295
  v27:=Tryz.zeroValue295
  t28:=Tryz.underlying296
  a28:=Tryz.isAgg296
  z28:=Tryz.sizeOf296
  v28:=Tryz.zeroValue296
  t33:=Tryz.underlying91
  a33:=Tryz.isAgg91
  z33:=Tryz.sizeOf91
  v33:=Tryz.zeroValue91 }
def sortedA_ren:Go.Shelf.Ren:=⟨fun | 6=>241 | 8=>261 | 9=>262 | 11=>280 | 13=>282 | 12=>281 | 23=>297 | 24=>298 | 14=>288 | 15=>289 | 16=>290 | 17=>291 | 18=>292 | 19=>293 | 20=>294 | 21=>295 | 22=>296 | 25=>306 | 26=>307 | 27=>308 | 28=>309 | 29=>310 | 30=>311 | 31=>318 | n=>n,fun | 26=>2 | 28=>296 | 24=>196 | 0=>0 | 3=>3 | 37=>351 | 48=>361 | 50=>212 | 4=>4 | 40=>355 | 39=>354 | 45=>300 | 5=>5 | 9=>9 | 51=>365 | 55=>369 | 57=>377 | 58=>378 | 33=>91 | n=>n,fun | n=>n⟩
theorem sortedA:Go.Proofs.SlLaysZI.n6 Tryz.prog sortedA_ren:={
  mixed:=by kernel_rfl
  f6:=⟨Tryz.f241.name,by decide,Tryz.func241.trans (congrArg some (by kernel_rfl))⟩
  f8:=⟨Tryz.f261.name,by decide,Tryz.func261.trans (congrArg some (by kernel_rfl))⟩
  f11:=⟨Tryz.f280.name,by decide,Tryz.func280.trans (congrArg some (by kernel_rfl))⟩
  t0:=Tryz.underlying0
  a0:=Tryz.isAgg0
  z0:=Tryz.sizeOf0
  v0:=Tryz.zeroValue0
  t24:=Tryz.underlying196
  a24:=Tryz.isAgg196
  z24:=Tryz.sizeOf196
  v24:=Tryz.zeroValue196
  t26:=Tryz.underlying2
  a26:=Tryz.isAgg2
  z26:=Tryz.sizeOf2
  v26:=Tryz.zeroValue2
  t28:=Tryz.underlying296
  a28:=Tryz.isAgg296
  z28:=Tryz.sizeOf296
  v28:=Tryz.zeroValue296
  i26:=by kernel_rfl }
def sortA_ren:Go.Shelf.Ren:=⟨fun | 5=>262 | 8=>282 | 7=>281 | 19=>297 | 20=>298 | 10=>288 | 11=>289 | 12=>290 | 13=>291 | 14=>292 | 15=>293 | 16=>294 | 17=>295 | 18=>296 | 30=>306 | 31=>307 | 32=>308 | 33=>309 | 34=>310 | 35=>311 | 40=>318 | n=>n,fun | 23=>196 | 25=>2 | 3=>3 | 32=>351 | 22=>196 | 0=>0 | 44=>361 | 46=>212 | 4=>4 | 36=>355 | 35=>354 | 41=>300 | 5=>5 | 9=>9 | 53=>365 | 57=>369 | 63=>377 | 64=>378 | n=>n,fun | n=>n⟩
theorem sortA:Go.Proofs.SlLaysM.n5 Tryz.prog sortA_ren:={
  mixed:=by kernel_rfl
  f5:=⟨Tryz.f262.name,by decide,Tryz.func262.trans (congrArg some (by kernel_rfl))⟩
  f7:=⟨Tryz.f281.name,by decide,Tryz.func281.trans (congrArg some (by kernel_rfl))⟩
  f8:=Tryz.func282.trans (congrArg some (by kernel_rfl))
  f10:=⟨Tryz.f288.name,by decide,Tryz.func288.trans (congrArg some (by kernel_rfl))⟩
  f11:=⟨Tryz.f289.name,by decide,Tryz.func289.trans (congrArg some (by kernel_rfl))⟩
  f12:=⟨Tryz.f290.name,by decide,Tryz.func290.trans (congrArg some (by kernel_rfl))⟩
  f13:=⟨Tryz.f291.name,by decide,Tryz.func291.trans (congrArg some (by kernel_rfl))⟩
  f14:=⟨Tryz.f292.name,by decide,Tryz.func292.trans (congrArg some (by kernel_rfl))⟩
  f15:=⟨Tryz.f293.name,by decide,Tryz.func293.trans (congrArg some (by kernel_rfl))⟩
  f16:=⟨Tryz.f294.name,by decide,Tryz.func294.trans (congrArg some (by kernel_rfl))⟩
  f17:=⟨Tryz.f295.name,by decide,Tryz.func295.trans (congrArg some (by kernel_rfl))⟩
  f18:=⟨Tryz.f296.name,by decide,Tryz.func296.trans (congrArg some (by kernel_rfl))⟩
  f19:=Tryz.func297.trans (congrArg some (by kernel_rfl))
  f20:=Tryz.func298.trans (congrArg some (by kernel_rfl))
  f30:=⟨Tryz.f306.name,by decide,Tryz.func306.trans (congrArg some (by kernel_rfl))⟩
  f31:=Tryz.func307.trans (congrArg some (by kernel_rfl))
  f32:=Tryz.func308.trans (congrArg some (by kernel_rfl))
  f33:=⟨Tryz.f309.name,by decide,Tryz.func309.trans (congrArg some (by kernel_rfl))⟩
  f34:=⟨Tryz.f310.name,by decide,Tryz.func310.trans (congrArg some (by kernel_rfl))⟩
  f35:=⟨Tryz.f311.name,by decide,Tryz.func311.trans (congrArg some (by kernel_rfl))⟩
  f40:=⟨Tryz.f318.name,by decide,Tryz.func318.trans (congrArg some (by kernel_rfl))⟩
  t0:=Tryz.underlying0
  a0:=Tryz.isAgg0
  z0:=Tryz.sizeOf0
  v0:=Tryz.zeroValue0
  t3:=Tryz.underlying3
  a3:=Tryz.isAgg3
  z3:=Tryz.sizeOf3
  v3:=Tryz.zeroValue3
  t4:=Tryz.underlying4
  a4:=Tryz.isAgg4
  z4:=Tryz.sizeOf4
  v4:=Tryz.zeroValue4
  t5:=Tryz.underlying5
  a5:=Tryz.isAgg5
  z5:=Tryz.sizeOf5
  v5:=Tryz.zeroValue5
  t9:=Tryz.underlying9
  a9:=Tryz.isAgg9
  z9:=Tryz.sizeOf9
  v9:=Tryz.zeroValue9
  t22:=Tryz.underlying196
  a22:=Tryz.isAgg196
  z22:=Tryz.sizeOf196
  v22:=Tryz.zeroValue196
  t23:=Tryz.underlying196
  a23:=Tryz.isAgg196
  z23:=Tryz.sizeOf196
  v23:=Tryz.zeroValue196
  t25:=Tryz.underlying2
  a25:=Tryz.isAgg2
  z25:=Tryz.sizeOf2
  v25:=Tryz.zeroValue2
  t32:=Tryz.underlying351
  a32:=Tryz.isAgg351
  z32:=Tryz.sizeOf351
  v32:=Tryz.zeroValue351
  t35:=Tryz.underlying354
  a35:=Tryz.isAgg354
  z35:=Tryz.sizeOf354
  v35:=Tryz.zeroValue354
  t36:=Tryz.underlying355
  a36:=Tryz.isAgg355
  z36:=Tryz.sizeOf355
  v36:=Tryz.zeroValue355
  t41:=Tryz.underlying300
  a41:=Tryz.isAgg300
  z41:=Tryz.sizeOf300
  v41:=Tryz.zeroValue300
  t44:=Tryz.underlying361
  a44:=Tryz.isAgg361
  z44:=Tryz.sizeOf361
  v44:=Tryz.zeroValue361
  t46:=Tryz.underlying212
  a46:=Tryz.isAgg212
  z46:=Tryz.sizeOf212
  v46:=Tryz.zeroValue212
  t53:=Tryz.underlying365
  a53:=Tryz.isAgg365
  z53:=Tryz.sizeOf365
  v53:=Tryz.zeroValue365
  t57:=Tryz.underlying369
  a57:=Tryz.isAgg369
  z57:=Tryz.sizeOf369
  v57:=Tryz.zeroValue369
  t63:=Tryz.underlying377
  a63:=Tryz.isAgg377
  z63:=Tryz.sizeOf377
  v63:=Tryz.zeroValue377
  t64:=Tryz.underlying378
  a64:=Tryz.isAgg378
  z64:=Tryz.sizeOf378
  v64:=Tryz.zeroValue378 }
theorem sortsA (m:Nat):AnyZI.SortsIn Tryz.prog sortedA_ren Fence.wide m :=
  ⟨fun blk off cap ss W hH hblk hsz=>callsIn_wide.2 (AnyM.slices_Sort_int sortA blk off cap ss W hH hblk hsz),
   fun p cap W=>callsIn_wide.2 (AnyM.slices_Sort_int_none sortA p cap W)⟩
end Go.Proofs.YtpdejinkmnhioaaGreatDoor
namespace Go.Proofs.YtpdejinkmnhioaaGreatDoor
open Go.RowKit Go.Maps
/-- maps.Keys of a map of sessions. -/
theorem keys_any (b:Nat) (w:World):Calls Tryz.prog 242 #[.map (some b)] w fun e w'=>e = .returned (.func (.func 263) #[] #[.pointer (some ⟨w.heap.size,0,none⟩)])∧w'=w.alloc (.cells #[.map (some b)] 267) :=
  (callsIn_wide (n:=5)).1 (AnyZI.keys_in keysA Fence.wide 5 trivial rfl (some b) w)
/-- slices.Sorted of what maps.Keys gives: the Ids, rising. -/
theorem sorted_any (b n Bm:Nat) (l:List Se) (w:World) (hM:EMap w b n l) (hr:Rises l) (hl:l.length≤20) (hm:w.cell? ⟨Bm,0,none⟩=some (.map (some b))) :
    Calls Tryz.prog 241 #[.func (.func 263) #[] #[.pointer (some ⟨Bm,0,none⟩)]] w fun e w'=>∃ v,e = .returned v∧w'.ownsRow w.heap.size 2 1 v l.length ((l.map (·.id)).map (Value.int .i64))∧Ext w w':=by
  have hBm:Bm < w.heap.size:=World.block_lt_of_cell? w _ hm
  have hseq:SeqGives Fence.wide 2 Tryz.prog 263 #[.pointer (some ⟨Bm,0,none⟩)] encZ (fun ss=>ss.Perm (intKeys (mapE l))) (Maps.size (mapE l)) w :=
    AnyZI.keys_gives (ρ:=keysA_ren) { keysA with } Fence.wide _ trivial rfl (by omega) Bm b n _ _ hBm hm hM
  have cS:=AnyZI.sorted_in sortedA Fence.wide 5 trivial trivial trivial trivial rfl (by omega) (sortsA _) (enters_of Tryz.func262 (by kernel_rfl) rfl) 263 #[.pointer (some ⟨Bm,0,none⟩)] trivial (enters_of Tryz.func263 (by kernel_rfl) rfl) _ _ (by rw [mapE_size];unfold maxLen;omega) (by rw [mapE_size];omega) _ hseq
  refine ((callsIn_wide (n:=5)).1 cS).mono ?_
  rintro e w' ⟨v,ss,rfl,hS,hrow,-,hb⟩
  have hlen:ss.length=l.length:=by have:=hS.length_eq;rw [mapE_keys,List.length_map] at this;exact this
  rw [sorted_keys hS hr,hlen] at hrow
  exact⟨v,rfl,hrow,hb⟩
theorem isl_of_owns {w:World} {base:Nat} {v:Value} {l:List Int} (h:w.ownsRow base 2 1 v l.length (l.map (Value.int .i64))):ISlice w v l:=by
  have hlt:=h.lt
  rcases h.2 with ⟨hv,h0⟩ | ⟨g,cap,cur,hv,hb,hh,hn,hm,hcs,htk⟩
  · exact⟨none,0,by rw [hv,h0],by omega,by unfold maxLen;omega,fun h=>by omega⟩
  · subst hv
    refine⟨some ⟨g,0,none⟩,cap,rfl,hn,hm,fun h0=>⟨g,0,rfl,(hlt g rfl).2,fun i x hx=>?_⟩⟩
    have hi:=(List.getElem?_eq_some_iff.1 hx).1
    rw [Nat.zero_add,h.cellAt i (by omega),List.getElem?_map,hx]
    rfl
def cellsE (l:List Se):List Value:=l.flatMap fun s=>[.int .i64 s.id,.int .i64 s.til]
theorem cellsE_app (l m:List Se):cellsE (l ++ m)=cellsE l ++ cellsE m:=by simp [cellsE]
theorem cellsE_len (l:List Se):(cellsE l).length=l.length * 2:=by
  induction l with
  | nil=>rfl
  | cons s r ih=>simp only [cellsE,List.flatMap_cons,List.length_append,List.length_cons,List.length_nil] at ih ⊢;omega
theorem cellsE_at:∀ (l:List Se) (i:Nat) (s:Se),l[i]?=some s→(cellsE l)[i * 2]?=some (.int .i64 s.id)∧(cellsE l)[i * 2+1]?=some (.int .i64 s.til)
  | s :: r,0,t,h=>by simp at h;subst h;exact⟨rfl,rfl⟩
  | s :: r,i+1,t,h=>by
    simp only [List.getElem?_cons_succ] at h
    have:=cellsE_at r i t h
    rw [show (i+1) * 2=i * 2+1+1 from by omega]
    exact this
  | [],i,t,h=>by simp at h
/-- Sessions in memory of their own. -/
theorem eown_of_owns {w:World} {base:Nat} {v:Value} {l:List Se} (h:w.ownsRow base 134 2 v l.length (cellsE l)):∃ g,base≤g∧EOwn w v g l:=by
  have hlt:=h.lt
  rcases h.2 with ⟨hv,h0⟩ | ⟨g,cap,cur,hv,hb,hh,hn,hm,hcs,htk⟩
  · exact m51z
  · subst hv
    refine⟨g,hb,some ⟨g,0,none⟩,cap,rfl,hn,hm,fun h0=>⟨0,rfl,⟨(hlt g rfl).2,fun j hj=>⟨?_,h.frozenAt _⟩⟩,fun i s hs=>?_⟩⟩
    · have hj' : j < (cellsE l).length:=by rw [cellsE_len];exact hj
      rw [Nat.zero_add]
      exact⟨(cellsE l)[j],by rw [h.cellAt j hj,List.getElem?_eq_getElem hj']⟩
    · obtain⟨h1,h2⟩:=cellsE_at l i s hs
      have hi:=(List.getElem?_eq_some_iff.1 hs).1
      rw [Nat.zero_add]
      exact⟨by rw [h.cellAt _ (by omega)];exact h1,by rw [h.cellAt _ (by omega)];exact h2⟩
theorem cells_ses (w:World) (x y:Int) (t:TypeId):∀ j u,(cellsE [⟨x,y⟩])[j]?=some u→(w.alloc (.cells #[.int .i64 x,.int .i64 y] t)).cell? ((⟨w.heap.size,0,none⟩:Addr).add j)=some u:=by
  intro j u hj
  rw [Addr.add_lit]
  match j,hj with
  | 0,hj=>simp [cellsE] at hj;subst hj;simp
  | 1,hj=>simp [cellsE] at hj;subst hj;simp
  | j+2,hj=>simp [cellsE] at hj
theorem cellsE_one (l:List Se):∀ u ∈ cellsE l,u.oneCell'=true:=by
  intro u hu
  simp only [cellsE,List.mem_flatMap] at hu
  obtain⟨s,_,hs⟩:=hu
  simp at hs
  rcases hs with rfl | rfl <;> rfl
set_option maxHeartbeats 2000000 in
set_option maxRecDepth 100000 in
theorem inOrder_any (b n:Nat) (l:List Se) (w:World) (hM:EMap w b n l) (hr:Rises l) (hl:l.length≤20) (ho:∀ s ∈ l,-100000≤s.id∧s.id≤100000) :
    Calls Tryz.prog 207 #[.map (some b)] w fun e w'=>∃ v g,e = .returned v∧w.heap.size≤g∧EOwn w' v g l∧Ext w w':=by
  refine n43z ?_
  intro hi9
  obtain⟨ti,hti,hxx⟩:=Option.map_eq_some_iff.1 hi9
  simp only [Prod.mk.injEq] at hxx
  obtain⟨hz0,hz1,hz2⟩:=hxx
  clear hi9
  have HM:Hid (EMap w b n l):=hM
  have HR:Hid (Rises l∧∀ s ∈ l,-100000≤s.id∧s.id≤100000):=⟨hr,ho⟩
  have HK:Hid (Calls Tryz.prog 242 #[.map (some b)] w fun e w'=>e = .returned (.func (.func 263) #[] #[.pointer (some ⟨w.heap.size,0,none⟩)])∧w'=w.alloc (.cells #[.map (some b)] 267)):=keys_any b w
  clear hM hr ho
  go_enter Tryz.func207,Tryz.ntmps207
  go_wp2_with fail
  refine HK.out.mono ?_
  rintro e w1 ⟨rfl,rfl⟩
  go_wp2_with fail
  refine (sorted_any b n _ l _ (HM.out.ext ((Ext.refl _).alloc _)) HR.out.1 hl (by simp)).mono ?_
  rintro e w2 ⟨v,rfl,hrow,hb⟩
  have HE2:Hid (Ext w w2):=((Ext.refl _).alloc _).trans hb
  have HI2:Hid (ISlice w2 v (l.map (·.id))):=isl_of_owns (by rw [List.length_map];exact hrow)
  have HM2:Hid (EMap w2 b n l):=HM.out.ext HE2.out
  clear hrow hb HK HM
  obtain⟨a,cap,rfl,hlc,hcm,hx⟩:=id HI2.out
  rw [List.length_map] at hlc hx ⊢
  have HX:Hid (0 < l.length→∃ b off,a=some ⟨b,off,none⟩∧b < w2.heap.size∧NumsAt w2 b off (l.map (·.id))):=hx
  clear hx
  unfold maxLen at hcm
  go_wp2
  go_loopw [3,10] (fun lv i wr=>∃ (k:Nat),k≤l.length∧i = .int .i64 k∧Hid (wr.ownsRow w2.heap.size 134 2 lv k (cellsE (l.take k)))∧Hid (Ext w2 wr)) (fun _ i _=>l.length - (intOf i).toNat)
  case atStart=>exact⟨0,Nat.zero_le _,rfl,World.ownsRow_nil _ _ _ _,Ext.refl _⟩
  case round =>
    obtain⟨k,hk,rfl,HO,HE⟩:=hrel
    by_cases hlt:k < l.length
    · obtain⟨s,hsk⟩:∃ s,l[k]?=some s:=⟨_,List.getElem?_eq_getElem hlt⟩
      obtain⟨g,off,rfl,hg,hN⟩:=HX.out (by omega)
      have d0:=(hN.ext hg HE.out) k s.id (by rw [List.getElem?_map,hsk];rfl)
      have hkey:keyOf Tryz.prog 2 (.int .i64 s.id)=some (.int .i64 s.id):=key64 (HR.out.2 s (List.mem_of_getElem? hsk))
      have hatt:(mapE l).atKey (.int .i64 s.id) (.lit (.int .i64 0)) = .lit (.int .i64 s.til):=by rw [mapE_at,HR.out.1.til hsk]
      have htk:cellsE (l.take k) ++ cellsE [⟨s.id,s.til⟩]=cellsE (l.take (k+1)):=by
        obtain⟨hk',rfl⟩:=List.getElem?_eq_some_iff.1 hsk
        rw [← cellsE_app,List.take_succ_eq_append_getElem hk']
      have HMr:Hid (EMap wr b n l):=HM2.out.ext HE.out
      clear hN hsk
      go_wp2_with (first | (at_lookup;refine wpList_lookup_own_int _ rfl _ _ 267 rfl 2 2 .i64 law64 Tryz.underlying267 Tryz.underlying2 (zero64 _) b n _ rfl HMr.out _ _ rfl hkey ?_;intro c hat hwc;rw [hatt] at hat;simp only [DataW.lit.injEq,Lit.int.injEq,true_and] at hat;rw [← hat];clear hat hwc) | (at_builtin;go_must (refine wpList_append_own _ rfl _ _ 34 rfl w2.heap.size 134 ti (.agg #[.int .i64 0,.int .i64 0]) 2 16 Tryz.underlying34 hti hz0 hz1 hz2 rfl (by decide) _ _ _ rfl (HO.out.alloc _) ⟨wr.heap.size,0,none⟩ 1 1 (cellsE [⟨s.id,s.til⟩]) rfl rfl (cells_ses _ _ _ _) (cellsE_one _) (by unfold maxLen;omega) (by omega) (by have:=HE.out.size;simp;omega) ?_;intro v6 w6 hown6 hgrow6 hnil6;have HB6:Hid (Ext w2 w6):=Below.trans HE.out (((Below.refl _ _).alloc HE.out.size _).grown hgrow6 (by have:=HE.out.size;simp;omega) (fun q hq=>(HO.out.lt q hq).1));have HO6:Hid (w6.ownsRow w2.heap.size 134 2 v6 (k+1) (cellsE (l.take (k+1)))):=(by rw [htk] at hown6;exact hown6);clear hown6 hgrow6 hnil6)))
      exact⟨⟨k+1,by omega,by go_num,HO6,HB6⟩,by simp [intOf];omega⟩
    · have hke:k=l.length:=by omega
      subst hke
      go_wp2
      go_ret
      have h:=HO.out
      rw [List.take_length] at h
      obtain⟨g,hg,hO⟩:=eown_of_owns h
      exact⟨_,g,rfl,Nat.le_trans HE2.out.size hg,hO,HE2.out.trans HE.out⟩
end Go.Proofs.YtpdejinkmnhioaaGreatDoor
