/- laws.FnExactApplyOp answers true at every state, client, operation. -/
import Derived.Test.YtpdejinkmnhioaaGreatDoorAoJ36
import Derived.Test.YtpdejinkmnhioaaGreatDoorAoJ45
import Derived.Test.YtpdejinkmnhioaaGreatDoorAoYC1
import Derived.Deep.RegionHeld3
import Derived.Test.YtpdejinkmnhioaaGreatDoorAoTk
import Derived.Test.YtpdejinkmnhioaaGreatDoorAoMk
namespace Go.Proofs.YtpdejinkmnhioaaGreatDoor
open Go.RowKit
theorem Stt.small.few {s:Stt} (h:s.small):s.few:=⟨h.1.1,h.2.1,h.2.2.1⟩
theorem Sta.few_applyV (s:Stt) (c:Int) (z:Opn) (h:s.small):(Sta.applyV s c z).2.2.few:=by
 unfold Sta.applyV
 split
 ·exact⟨by simp [Sta.none],by simp [Sta.none],by simp [Sta.none]⟩
 ·split
  ·exact⟨by simp [Sta.none],by simp [Sta.none],by simp [Sta.none]⟩
  ·split
   ·exact⟨by simp [Sta.none],by simp [Sta.none],by simp [Sta.none]⟩
   ·rename_i h1 h2 h3
    have hf:Sta.fault s=0:=by omega
    have hr:=Sta.doT_right (Sta.right_of hf) (by simpa using h2) (by omega) (o:=z) (c:=c)
    obtain⟨⟨a,-⟩,-,-,-,b,-⟩:=Sta.right_facts hr
    exact⟨by show (Sta.doT s c z).2.nodes.length≤_;omega,by show (Sta.doT s c z).2.ses.length≤_;omega,by show (Sta.doT s c z).2.marks.length≤_;rw [(Sta.doT_now s c z).2];exact h.2.2.1⟩
set_option linter.unusedSimpArgs false in
set_option maxHeartbeats 16000000 in
set_option maxRecDepth 100000 in
theorem lawApplyOp (s:Stt) (vn vs vm:Value) (c:Int) (z:Opn) (w:World) (hg:Gd w) (hSa:SSlice w vn vs vm s) (hza:s.fits) (hzz:z.path.size≤maxLen) :
  Calls Tryz.prog 3 #[sagg vn vs s.now vm,.int .i64 c,oagg z] w fun e w'=>e = .returned (.bool true)∧Ext w w':=by
 have HSz0:Hid (∀ (p:Int) (wx:World),0≤p→p≤1048576→Ext w wx→Calls Tryz.prog 11 #[sagg vn vs s.now vm,.int .i64 p] wx fun e w'=>∃ q:Int,e = .returned (.int .i64 q)∧-1≤q∧q≤1048576∧(0≤q→s.small)∧Ext wx w'):=fun p wx h0 h1 he=>szState_le s vn vs vm p wx h0 h1 (hSa.ext he) hza
 have HT0:Hid (s.small→∀ wx:World,Ext w wx→Calls Tryz.prog 14 #[sagg vn vs s.now vm] wx fun e w'=>∃ an cn ae ce am cm,e = .returned (.agg #[.slice an s.nodes.length cn,.slice ae s.ses.length ce,.int .i64 s.now,.slice am s.marks.length cm])∧SAt wx.heap.size w'.heap.size w' (.slice an s.nodes.length cn) (.slice ae s.ses.length ce) (.slice am s.marks.length cm) s∧Ext wx w'):=fun hl wx he=>(toState_own s vn vs vm wx (hSa.ext he) hl).mono fun e w' ⟨an,cn,ae,ce,am,cm,h1,h2,h3⟩=>⟨an,cn,ae,ce,am,cm,h1,SAt.own h2,h3⟩
 have HEa0:Hid (∀ (an:Option Addr) (cn:Nat) (ae:Option Addr) (ce:Nat) (am:Option Addr) (cm:Nat) (bn:Option Addr) (dn:Nat) (be:Option Addr) (de:Nat) (bm:Option Addr) (dm:Nat) (wx:World),SSlice wx (.slice an s.nodes.length cn) (.slice ae s.ses.length ce) (.slice am s.marks.length cm) s→SSlice wx (.slice bn s.nodes.length dn) (.slice be s.ses.length de) (.slice bm s.marks.length dm) s→Calls Tryz.prog 18 #[.agg #[.slice an s.nodes.length cn,.slice ae s.ses.length ce,.int .i64 s.now,.slice am s.marks.length cm],.agg #[.slice bn s.nodes.length dn,.slice be s.ses.length de,.int .i64 s.now,.slice bm s.marks.length dm]] wx fun e w'=>e = .returned (.bool true)∧Ext wx w'):=fun _ _ _ _ _ _ _ _ _ _ _ _ wx h1 h2=>eqState_same s _ _ _ _ _ _ wx h1 h2
 by_cases hsm:s.small
 rotate_left
 ·have HNs:Hid (¬ s.small):=hsm
  obtain⟨⟨an,cn,rfl⟩,⟨ae,ce,rfl⟩,⟨am,cm,rfl⟩⟩:=And.intro hSa.1.vis (And.intro hSa.2.1.vis hSa.2.2.vis)
  clear hSa hza hzz hg hsm HT0 HEa0
  unfold sagg oagg at *
  go_enter Tryz.func3,Tryz.ntmps3
  go_wp2_with fail
  refine (HSz0.out 1048576 _ (by omega) (by omega) (((Ext.refl _).alloc _).alloc _)).mono ?_
  rintro e w1 ⟨q1,rfl,qa,qb,qc,hb⟩
  have E1:Hid (Ext w w1):=(((Ext.refl _).alloc _).alloc _).trans hb
  have hq:q1 < 0:=by
   by_cases h:q1 < 0
   ·exact h
   ·exact absurd (qc (by omega)) HNs.out
  clear hb qc HSz0
  go_wp2
  go_ret
  exact⟨rfl,E1.out⟩
 have HMk0:Hid (∀ (lo hi:Nat) (an:Option Addr) (cn:Nat) (ae:Option Addr) (ce:Nat) (am:Option Addr) (cm:Nat) (wx:World),SAt lo hi wx (.slice an s.nodes.length cn) (.slice ae s.ses.length ce) (.slice am s.marks.length cm) s→Calls Tryz.prog 19 #[.agg #[.slice an s.nodes.length cn,.slice ae s.ses.length ce,.int .i64 s.now,.slice am s.marks.length cm],.int .i64 ((1:Nat):Int)] wx fun e w'=>∃ k:Nat,e = .returned (.int .i64 (k:Int))∧k≤100000000∧UpdS lo hi wx w'):=fun lo hi _ _ _ _ _ _ wx h1=>(markState_at lo hi s _ _ _ 1 wx h1 (by omega) (by have:=hsm;exact this.few)).mono fun e w' ⟨h1,h2,h3⟩=>⟨msE 1 s,h1,(by have:=hsm.few;unfold msE;obtain⟨a,b,c⟩:=this;omega),h3⟩
 have HSz2:Hid (∀ (p:Int) (wx:World),0≤p→p≤1048576→Ext w wx→Calls Tryz.prog 12 #[oagg z,.int .i64 p] wx fun e w'=>∃ q:Int,e = .returned (.int .i64 q)∧-1≤q∧q≤1048576∧(0≤q→True)∧Ext wx w'):=fun p wx h0 h1 _=>(szOp_any z p wx h0 h1 hzz).mono fun e w' ⟨h2,h3⟩=>⟨_,h2,by split <;> omega,by split <;> omega,fun _=>trivial,h3⟩
 have HT2:Hid (True→∀ wx:World,Ext w wx→Calls Tryz.prog 15 #[oagg z] wx fun e w'=>e = .returned (oagg z)∧Ext wx w'):=fun _ wx _=>toOp_any z wx
 have hfew:=Sta.few_applyV s c z hsm
 have HSp:Hid (∀ (an:Option Addr) (cn:Nat) (ae:Option Addr) (ce:Nat) (am:Option Addr) (cm:Nat) (wx:World),Ext w wx→SSlice wx (.slice an s.nodes.length cn) (.slice ae s.ses.length ce) (.slice am s.marks.length cm) s→Calls Tryz.prog 13 #[.agg #[.slice an s.nodes.length cn,.slice ae s.ses.length ce,.int .i64 s.now,.slice am s.marks.length cm],.int .i64 c,oagg z] wx (ARet wx (Sta.applyV s c z))):=fun _ _ _ _ _ _ wx _ h=>specApplyOp_any s _ _ _ c z wx hza h
 have HIm:Hid (∀ (an:Option Addr) (cn:Nat) (ae:Option Addr) (ce:Nat) (am:Option Addr) (cm:Nat) (wx:World),Ext w wx→SSlice wx (.slice an s.nodes.length cn) (.slice ae s.ses.length ce) (.slice am s.marks.length cm) s→Calls Tryz.prog 16 #[.agg #[.slice an s.nodes.length cn,.slice ae s.ses.length ce,.int .i64 s.now,.slice am s.marks.length cm],.int .i64 c,oagg z] wx (ARet wx (Sta.applyV s c z))):=fun _ _ _ _ _ _ wx he h=>implApplyOp_any s _ _ _ c z wx (hg.ext he) hza h
 generalize Sta.applyV s c z=x at *
 obtain⟨rc,⟨rd,rx,rp⟩,t⟩:=x
 replace HSp:Hid (∀ (an:Option Addr) (cn:Nat) (ae:Option Addr) (ce:Nat) (am:Option Addr) (cm:Nat) (wx:World),Ext w wx→SSlice wx (.slice an s.nodes.length cn) (.slice ae s.ses.length ce) (.slice am s.marks.length cm) s→Calls Tryz.prog 13 #[.agg #[.slice an s.nodes.length cn,.slice ae s.ses.length ce,.int .i64 s.now,.slice am s.marks.length cm],.int .i64 c,oagg z] wx fun e w'=>∃ an ae am cn ce cm,e = .returned (.agg #[.int .i64 rc,.int .i64 rd,.int .i64 rx,.string rp,.slice an t.nodes.length cn,.slice ae t.ses.length ce,.int .i64 t.now,.slice am t.marks.length cm])∧SAt wx.heap.size w'.heap.size w' (.slice an t.nodes.length cn) (.slice ae t.ses.length ce) (.slice am t.marks.length cm) t∧Ext wx w'):=fun _ _ _ _ _ _ wx he h=>(HSp.out _ _ _ _ _ _ wx he h).mono (fun e w' ⟨un,us,um,h1,h2,h3⟩=>by obtain⟨⟨an,cn,rfl⟩,⟨ae,ce,rfl⟩,⟨am,cm,rfl⟩⟩:=And.intro (NSlice.vis h2.slice.1) (And.intro (ESlice.vis h2.slice.2.1) (MSlice.vis h2.slice.2.2));exact⟨an,ae,am,cn,ce,cm,h1,SAt.of h2,h3⟩)
 replace HIm:Hid (∀ (an:Option Addr) (cn:Nat) (ae:Option Addr) (ce:Nat) (am:Option Addr) (cm:Nat) (wx:World),Ext w wx→SSlice wx (.slice an s.nodes.length cn) (.slice ae s.ses.length ce) (.slice am s.marks.length cm) s→Calls Tryz.prog 16 #[.agg #[.slice an s.nodes.length cn,.slice ae s.ses.length ce,.int .i64 s.now,.slice am s.marks.length cm],.int .i64 c,oagg z] wx fun e w'=>∃ an ae am cn ce cm,e = .returned (.agg #[.int .i64 rc,.int .i64 rd,.int .i64 rx,.string rp,.slice an t.nodes.length cn,.slice ae t.ses.length ce,.int .i64 t.now,.slice am t.marks.length cm])∧SAt wx.heap.size w'.heap.size w' (.slice an t.nodes.length cn) (.slice ae t.ses.length ce) (.slice am t.marks.length cm) t∧Ext wx w'):=fun _ _ _ _ _ _ wx he h=>(HIm.out _ _ _ _ _ _ wx he h).mono (fun e w' ⟨un,us,um,h1,h2,h3⟩=>by obtain⟨⟨an,cn,rfl⟩,⟨ae,ce,rfl⟩,⟨am,cm,rfl⟩⟩:=And.intro (NSlice.vis h2.slice.1) (And.intro (ESlice.vis h2.slice.2.1) (MSlice.vis h2.slice.2.2));exact⟨an,ae,am,cn,ce,cm,h1,SAt.of h2,h3⟩)
 have HEq:Hid (∀ (an ae am:Option Addr) (cn ce cm:Nat) (bn be bm:Option Addr) (dn de dm:Nat) (wx:World),SSlice wx (.slice an t.nodes.length cn) (.slice ae t.ses.length ce) (.slice am t.marks.length cm) t→SSlice wx (.slice bn t.nodes.length dn) (.slice be t.ses.length de) (.slice bm t.marks.length dm) t→Calls Tryz.prog 17 #[.agg #[.int .i64 rc,.int .i64 rd,.int .i64 rx,.string rp,.slice an t.nodes.length cn,.slice ae t.ses.length ce,.int .i64 t.now,.slice am t.marks.length cm],.agg #[.int .i64 rc,.int .i64 rd,.int .i64 rx,.string rp,.slice bn t.nodes.length dn,.slice be t.ses.length de,.int .i64 t.now,.slice bm t.marks.length dm]] wx fun e w'=>e = .returned (.bool true)∧Ext wx w'):=fun _ _ _ _ _ _ _ _ _ _ _ _ wx h1 h2=>eqStateResult_same rc rd rx rp t _ _ _ _ _ _ wx h1 h2
 obtain⟨K,hK9⟩:∃ K,K=msE 1 t:=⟨_,rfl⟩
 have HMi:Hid (∀ (lo hi:Nat) (an ae am:Option Addr) (cn ce cm:Nat) (wx:World),SAt lo hi wx (.slice an t.nodes.length cn) (.slice ae t.ses.length ce) (.slice am t.marks.length cm) t→Calls Tryz.prog 20 #[.agg #[.int .i64 rc,.int .i64 rd,.int .i64 rx,.string rp,.slice an t.nodes.length cn,.slice ae t.ses.length ce,.int .i64 t.now,.slice am t.marks.length cm],.int .i64 ((1:Nat):Int)] wx fun e w'=>e = .returned (.int .i64 (K:Nat))∧SAt lo hi w' (.slice an t.nodes.length cn) (.slice ae t.ses.length ce) (.slice am t.marks.length cm) (msT 1 t)∧UpdS lo hi wx w'):=by rw [hK9];exact fun lo hi _ _ _ _ _ _ wx h1=>markStateResult_at lo hi rc rd rx rp t _ _ _ 1 wx h1 (by omega) hfew
 have HHe:Hid (∀ (an ae am:Option Addr) (cn ce cm:Nat) (wx:World),SSlice wx (.slice an t.nodes.length cn) (.slice ae t.ses.length ce) (.slice am t.marks.length cm) (msT 1 t)→Calls Tryz.prog 21 #[.agg #[.int .i64 rc,.int .i64 rd,.int .i64 rx,.string rp,.slice an t.nodes.length cn,.slice ae t.ses.length ce,.int .i64 t.now,.slice am t.marks.length cm],.int .i64 ((1:Nat):Int)] wx fun e w'=>e = .returned (.int .i64 (K:Nat))∧Ext wx w'):=by rw [hK9];exact fun _ _ _ _ _ _ wx h1=>heldStateResult_at rc rd rx rp t _ _ _ 1 wx h1 (by omega) hfew
 clear hK9
 obtain⟨⟨an,cn,rfl⟩,⟨ae,ce,rfl⟩,⟨am,cm,rfl⟩⟩:=And.intro hSa.1.vis (And.intro hSa.2.1.vis hSa.2.2.vis)
 clear hSa hza hzz hg hfew hsm
 unfold sagg oagg at *
 have A0_0:Hid (BX ((w.alloc (.cells #[.slice an s.nodes.length cn,.slice ae s.ses.length ce,.int .i64 s.now,.slice am s.marks.length cm] 26)).alloc (.cells #[.int .i64 z.kind,.string z.path,.int .i64 z.data,.int .i64 z.version,.bool z.seq,.bool z.own] 28)) w.heap.size [.slice an s.nodes.length cn,.slice ae s.ses.length ce,.int .i64 s.now,.slice am s.marks.length cm]):=by
  have h:=((BX.new w [.slice an s.nodes.length cn,.slice ae s.ses.length ce,.int .i64 s.now,.slice am s.marks.length cm] 26).ext ((Ext.refl _).alloc (.cells #[.int .i64 z.kind,.string z.path,.int .i64 z.data,.int .i64 z.version,.bool z.seq,.bool z.own] 28)))
  (try simp only [World.size_alloc] at h)
  exact h
 have A2_0:Hid (BX ((w.alloc (.cells #[.slice an s.nodes.length cn,.slice ae s.ses.length ce,.int .i64 s.now,.slice am s.marks.length cm] 26)).alloc (.cells #[.int .i64 z.kind,.string z.path,.int .i64 z.data,.int .i64 z.version,.bool z.seq,.bool z.own] 28)) (w.heap.size+1) [.int .i64 z.kind,.string z.path,.int .i64 z.data,.int .i64 z.version,.bool z.seq,.bool z.own]):=by
  have h:=(BX.new (w.alloc (.cells #[.slice an s.nodes.length cn,.slice ae s.ses.length ce,.int .i64 s.now,.slice am s.marks.length cm] 26)) [.int .i64 z.kind,.string z.path,.int .i64 z.data,.int .i64 z.version,.bool z.seq,.bool z.own] 28)
  (try simp only [World.size_alloc] at h)
  exact h
 have E_0:Hid (Ext w ((w.alloc (.cells #[.slice an s.nodes.length cn,.slice ae s.ses.length ce,.int .i64 s.now,.slice am s.marks.length cm] 26)).alloc (.cells #[.int .i64 z.kind,.string z.path,.int .i64 z.data,.int .i64 z.version,.bool z.seq,.bool z.own] 28))):=(((Ext.refl w).alloc _).alloc _)
 go_enter Tryz.func3,Tryz.ntmps3
 go_wp2_with fail
 refine (HSz0.out 1048576 _ (by omega) (by omega) E_0.out).mono ?_
 rintro e w1 ⟨q1,rfl,q1a,q1b,q1c,hb⟩
 have A0_1:=hxbx A0_0 hb
 have A2_2:=hxbx A2_0 hb
 have E_3:=hxE E_0 hb
 clear A0_0 A2_0 E_0 hb
 have HQ0:Hid (0≤q1→_):=q1c
 clear q1c
 by_cases nq1:q1 < 0
 ·go_wp2
  go_ret
  exact⟨rfl,E_3.out⟩
 have HT0:Hid _:=HT0.out (HQ0.out (by omega))
 clear HQ0
 have cA20:=(A2_2.out.2 0 _ rfl).1
 have cA21:=(A2_2.out.2 1 _ rfl).1
 have cA22:=(A2_2.out.2 2 _ rfl).1
 have cA23:=(A2_2.out.2 3 _ rfl).1
 have cA24:=(A2_2.out.2 4 _ rfl).1
 have cA25:=(A2_2.out.2 5 _ rfl).1
 have lA2:=A2_2.out.1
 go_wp2_with fail
 refine (HSz2.out q1 _ (by omega) (by omega) E_3.out).mono ?_
 rintro e w2 ⟨q2,rfl,q2a,q2b,q2c,hb⟩
 clear cA20 cA21 cA22 cA23 cA24 cA25 lA2
 have A0_4:=hxbx A0_1 hb
 have A2_5:=hxbx A2_2 hb
 have E_6:=hxE E_3 hb
 clear A0_1 A2_2 E_3 hb
 have HQ2:Hid (0≤q2→_):=q2c
 clear q2c
 by_cases nq2:q2 < 0
 ·go_wp2
  go_ret
  exact⟨rfl,E_6.out⟩
 have HT2:Hid _:=HT2.out (HQ2.out (by omega))
 clear HQ2
 obtain⟨zw2,hzw2⟩:∃ z,z=w2.heap.size:=⟨_,rfl⟩
 have HZw2:Hid (zw2=w2.heap.size):=hzw2
 have OZw2:Hid (w.heap.size≤zw2∧w.heap.size < zw2∧(w.heap.size+1) < zw2):=(by have:=E_6.out.size;have h0:=A0_4.out.1;have h2:=A2_5.out.1;show _∧_∧_;omega)
 clear hzw2
 go_wp2
 have HS:Hid (∀ W',Ext w2 W'→(fun W' : World=>W'.cell? ⟨w.heap.size,0,none⟩=some (.slice an s.nodes.length cn)∧W'.cell? ⟨w.heap.size,1,none⟩=some (.slice ae s.ses.length ce)∧W'.cell? ⟨w.heap.size,2,none⟩=some (.int .i64 s.now)∧W'.cell? ⟨w.heap.size,3,none⟩=some (.slice am s.marks.length cm)∧W'.cell? ⟨(w.heap.size+1),0,none⟩=some (.int .i64 z.kind)∧W'.cell? ⟨(w.heap.size+1),1,none⟩=some (.string z.path)∧W'.cell? ⟨(w.heap.size+1),2,none⟩=some (.int .i64 z.data)∧W'.cell? ⟨(w.heap.size+1),3,none⟩=some (.int .i64 z.version)∧W'.cell? ⟨(w.heap.size+1),4,none⟩=some (.bool z.seq)∧W'.cell? ⟨(w.heap.size+1),5,none⟩=some (.bool z.own)) W'):=fun W' he=>⟨((A0_4.out.ext he).2 0 _ rfl).1,((A0_4.out.ext he).2 1 _ rfl).1,((A0_4.out.ext he).2 2 _ rfl).1,((A0_4.out.ext he).2 3 _ rfl).1,((A2_5.out.ext he).2 0 _ rfl).1,((A2_5.out.ext he).2 1 _ rfl).1,((A2_5.out.ext he).2 2 _ rfl).1,((A2_5.out.ext he).2 3 _ rfl).1,((A2_5.out.ext he).2 4 _ rfl).1,((A2_5.out.ext he).2 5 _ rfl).1⟩
 obtain⟨Q9,HQ9⟩:∃ Q9:Exit→Act→World→Prop,Hid (Q9=OnlyY fun fr9 W=>∃ (bw lo hi:Nat) (anp aep amp:Option Addr) (cnp cep cmp:Nat) (u26x:Value),fr9 = { tmps:=#[(.agg #[.slice an s.nodes.length cn,.slice ae s.ses.length ce,.int .i64 s.now,.slice am s.marks.length cm]),(.int .i64 c),(.agg #[.int .i64 z.kind,.string z.path,.int .i64 z.data,.int .i64 z.version,.bool z.seq,.bool z.own]),(.pointer (some ⟨w.heap.size,0,none⟩)),undef,(.pointer (some ⟨(w.heap.size+1),0,none⟩)),(.bool false),(.int .i64 q2),(.pointer (some ⟨bw,0,none⟩)),undef,undef,undef,undef,undef,undef,(.agg #[.slice an s.nodes.length cn,.slice ae s.ses.length ce,.int .i64 s.now,.slice am s.marks.length cm]),(.int .i64 1048576),(.int .i64 q1),(.int .i64 q1),(.bool (decide (q1 < 0))),(.agg #[.int .i64 z.kind,.string z.path,.int .i64 z.data,.int .i64 z.version,.bool z.seq,.bool z.own]),(.int .i64 q1),(.int .i64 q2),(.int .i64 q2),(.bool (decide (q2 < 0))),(.agg #[.slice an s.nodes.length cn,.slice ae s.ses.length ce,.int .i64 s.now,.slice am s.marks.length cm]),u26x,(.int .i64 c),(.agg #[.int .i64 z.kind,.string z.path,.int .i64 z.data,.int .i64 z.version,.bool z.seq,.bool z.own]),(.agg #[.int .i64 z.kind,.string z.path,.int .i64 z.data,.int .i64 z.version,.bool z.seq,.bool z.own]),(.agg #[.int .i64 rc,.int .i64 rd,.int .i64 rx,.string rp,.slice anp t.nodes.length cnp,.slice aep t.ses.length cep,.int .i64 t.now,.slice amp t.marks.length cmp]),undef,undef,undef,undef,undef,undef,undef,undef,undef,undef,undef,undef,undef,undef,undef,undef,undef,undef,undef,undef,undef,undef,undef,undef,undef,undef,undef,undef,undef,undef,undef,undef,undef,undef,undef,undef,undef,undef,undef,undef,undef,undef,undef,undef,undef,undef,undef,undef,undef,undef,undef,undef,undef,undef,undef,undef],defers:=[] }∧Ext w2 W∧(w2.heap.size≤lo∧lo≤hi∧hi≤W.heap.size∧w2.heap.size≤bw∧bw < W.heap.size∧(bw < lo∨hi≤bw))∧BX W bw [.int .i64 rc,.int .i64 rd,.int .i64 rx,.string rp,.slice anp t.nodes.length cnp,.slice aep t.ses.length cep,.int .i64 t.now,.slice amp t.marks.length cmp]∧SAt lo hi W (.slice anp t.nodes.length cnp) (.slice aep t.ses.length cep) (.slice amp t.marks.length cmp) t):=⟨_,rfl⟩
 have HPQ:Hid (∀ x a a' w,Q9 (Exit.panic x) a w→Q9 (Exit.panic x) a' w):=by rw [HQ9.out];exact fun x a a' w h=>(h:False).elim
 refine Code.wp_mono (Q:=Q9) ?_ ?_
 rotate_left
 ·refine wp_region_held_drew (S:=(fun W' : World=>W'.cell? ⟨w.heap.size,0,none⟩=some (.slice an s.nodes.length cn)∧W'.cell? ⟨w.heap.size,1,none⟩=some (.slice ae s.ses.length ce)∧W'.cell? ⟨w.heap.size,2,none⟩=some (.int .i64 s.now)∧W'.cell? ⟨w.heap.size,3,none⟩=some (.slice am s.marks.length cm)∧W'.cell? ⟨(w.heap.size+1),0,none⟩=some (.int .i64 z.kind)∧W'.cell? ⟨(w.heap.size+1),1,none⟩=some (.string z.path)∧W'.cell? ⟨(w.heap.size+1),2,none⟩=some (.int .i64 z.data)∧W'.cell? ⟨(w.heap.size+1),3,none⟩=some (.int .i64 z.version)∧W'.cell? ⟨(w.heap.size+1),4,none⟩=some (.bool z.seq)∧W'.cell? ⟨(w.heap.size+1),5,none⟩=some (.bool z.own))) (by kernel_rfl) (HS.out _ ((Ext.refl _).drew)) (fun hHeld=>?_)
  have FZp:Hid (Ext w2 w2.drew):=(Ext.refl _).drew
  generalize w2.drew=yp0 at *
  refine wpAnyH_take (i := 0) (oi := { dst := some 25, op := Op.load 26 (.tmp 3), type := 26, pos := "exact.go:3024", after := #[], guard := none }) (v := ?_) rfl (by kernel_rfl) (by kernel_rfl) (by kernel_rfl) (fun _ _ _ h => HPQ.out _ _ _ _ h) (Or.inl ⟨by rfl, ?_⟩) (by assumption) ?_
  rotate_left
  ·intro w' hSw;(try dsimp only at hSw);go_simp;try with_reducible rfl
  (try simp only [Act.put,List.setIfInBounds_toArray,List.set_cons_zero,List.set_cons_succ])
  refine wpAnyH_take (i := 2) (oi := { dst := some 27, op := Op.move (.tmp 1), type := 2, pos := "exact.go:3024", after := #[], guard := none }) (v := ?_) rfl (by kernel_rfl) (by kernel_rfl) (by kernel_rfl) (fun _ _ _ h => HPQ.out _ _ _ _ h) (Or.inl ⟨by rfl, ?_⟩) (by assumption) ?_
  rotate_left
  ·intro w' hSw;(try dsimp only at hSw);go_simp;try with_reducible rfl
  (try simp only [Act.put,List.setIfInBounds_toArray,List.set_cons_zero,List.set_cons_succ])
  refine wpAnyH_take (i := 3) (oi := { dst := some 28, op := Op.load 28 (.tmp 5), type := 28, pos := "exact.go:3024", after := #[], guard := none }) (v := ?_) rfl (by kernel_rfl) (by kernel_rfl) (by kernel_rfl) (fun _ _ _ h => HPQ.out _ _ _ _ h) (Or.inl ⟨by rfl, ?_⟩) (by assumption) ?_
  rotate_left
  ·intro w' hSw;(try dsimp only at hSw);go_simp;try with_reducible rfl
  (try simp only [Act.put,List.setIfInBounds_toArray,List.set_cons_zero,List.set_cons_succ])
  refine wpAnyH_ready (rs:=[1,6]) (by kernel_rfl) (by simp) (AllReadyH.cons rfl (fun K hK=>?_) (AllReadyH.cons rfl (fun K hK=>?_) AllReadyH.nil))
  ·go_simp
   refine (HT0.out _ (E_6.out.trans FZp.out)).mono ?_
   rintro e yp1 ⟨anp0,cnp0,aep0,cep0,amp0,cmp0,rfl,hT,hb⟩
   obtain⟨zp1,hzp1⟩:∃ z,z=yp0.heap.size:=⟨_,rfl⟩
   obtain⟨tp1,htp1⟩:∃ z,z=yp1.heap.size:=⟨_,rfl⟩
   rw [← hzp1,← htp1] at hT
   have T0p1:Hid (SAt zp1 tp1 yp1 (.slice anp0 s.nodes.length cnp0) (.slice aep0 s.ses.length cep0) (.slice amp0 s.marks.length cmp0) s):=hT
   have Fp1:Hid (Ext w2 yp1):=FZp.out.trans hb
   clear hb hT hzp1 htp1
   refine hK.out _ _ (HS.out _ Fp1.out) (fun hHeldp1=>?_)
   clear hK K
   refine wpAnyH_ready (rs:=[4,6]) (by kernel_rfl) (by simp) (AllReadyH.cons rfl (fun K hK=>?_) (AllReadyH.cons rfl (fun K hK=>?_) AllReadyH.nil))
   ·go_simp
    refine (HT2.out _ (E_6.out.trans Fp1.out)).mono ?_
    rintro e yp3 ⟨rfl,hb⟩
    have Fp3:Hid (Ext w2 yp3):=Fp1.out.trans hb
    have T0p3:=hxat T0p1 hb
    clear hb
    refine hK.out _ _ (HS.out _ Fp3.out) (fun hHeldp3=>?_)
    clear hK K
    refine wpAnyH_ready (rs:=[5,6]) (by kernel_rfl) (by simp) (AllReadyH.cons rfl (fun K hK=>?_) (AllReadyH.cons rfl (fun K hK=>?_) AllReadyH.nil))
    ·go_simp
     refine (HSp.out anp0 cnp0 aep0 cep0 amp0 cmp0 _ (E_6.out.trans Fp3.out) T0p3.out.slice).mono ?_
     rintro e yp5 ⟨anp,aep,amp,cnp,cep,cmp,rfl,hR,hb⟩
     obtain⟨zp5,hzp5⟩:∃ z,z=yp3.heap.size:=⟨_,rfl⟩
     obtain⟨tp5,htp5⟩:∃ z,z=yp5.heap.size:=⟨_,rfl⟩
     have RSp5:Hid (w2.heap.size≤zp5∧zp5≤tp5∧tp5≤yp5.heap.size):=⟨by rw [hzp5];exact Fp3.out.size,by rw [hzp5,htp5];exact hb.size,by rw [htp5];exact Nat.le_refl _⟩
     rw [← hzp5,← htp5] at hR
     have Rp5:Hid (SAt zp5 tp5 yp5 (.slice anp t.nodes.length cnp) (.slice aep t.ses.length cep) (.slice amp t.marks.length cmp) t):=hR
     have Fp5:Hid (Ext w2 yp5):=Fp3.out.trans hb
     have T0p5:=hxat T0p3 hb
     clear hb hR hzp5 htp5
     refine hK.out _ _ (HS.out _ Fp5.out) (fun hHeldp5=>?_)
     clear hK K
     refine wpAnyH_ready (rs:=[6]) (by kernel_rfl) (by simp) (AllReadyH.cons rfl (fun K hK=>?_) AllReadyH.nil)
     go_simp
     obtain⟨bp7,hbp7⟩:∃ b,b=yp5.heap.size:=⟨_,rfl⟩
     have Fp7:Hid (Ext w2 (yp5.alloc (.cells #[.int .i64 0,.int .i64 0,.int .i64 0,.string ⟨#[]⟩,.slice none 0 0,.slice none 0 0,.int .i64 0,.slice none 0 0] 39))):=Fp5.out.alloc _
     have Rp7:=hxat Rp5 ((Ext.refl yp5).alloc (.cells #[.int .i64 0,.int .i64 0,.int .i64 0,.string ⟨#[]⟩,.slice none 0 0,.slice none 0 0,.int .i64 0,.slice none 0 0] 39))
     have Bp7:Hid (BX (yp5.alloc (.cells #[.int .i64 0,.int .i64 0,.int .i64 0,.string ⟨#[]⟩,.slice none 0 0,.slice none 0 0,.int .i64 0,.slice none 0 0] 39)) bp7 [.int .i64 0,.int .i64 0,.int .i64 0,.string ⟨#[]⟩,.slice none 0 0,.slice none 0 0,.int .i64 0,.slice none 0 0]):=by rw [hbp7];exact BX.new yp5 [.int .i64 0,.int .i64 0,.int .i64 0,.string ⟨#[]⟩,.slice none 0 0,.slice none 0 0,.int .i64 0,.slice none 0 0] 39
     have Lp7:Hid (w2.heap.size≤bp7∧(yp5.alloc (.cells #[.int .i64 0,.int .i64 0,.int .i64 0,.string ⟨#[]⟩,.slice none 0 0,.slice none 0 0,.int .i64 0,.slice none 0 0] 39)).heap.size=bp7+1):=⟨by rw [hbp7];exact Fp5.out.size,by rw [hbp7];exact World.size_alloc _ _⟩
     have Dp7:Hid (bp7 < zp5∨tp5≤bp7):=Or.inr (by have:=RSp5.out;omega)
     have RSp7:Hid (w2.heap.size≤zp5∧zp5≤tp5∧tp5≤(yp5.alloc (.cells #[.int .i64 0,.int .i64 0,.int .i64 0,.string ⟨#[]⟩,.slice none 0 0,.slice none 0 0,.int .i64 0,.slice none 0 0] 39)).heap.size):=(by have h1:=RSp5.out;have h2:=Lp7.out;have h3:=hbp7;show _∧_∧_;omega)
     rw [← hbp7]
     clear hbp7
     refine hK.out _ _ (HS.out _ Fp7.out) (fun hHeldp7=>?_)
     clear hK K
     generalize (yp5.alloc (.cells #[.int .i64 0,.int .i64 0,.int .i64 0,.string ⟨#[]⟩,.slice none 0 0,.slice none 0 0,.int .i64 0,.slice none 0 0] 39))=yp7 at *
     refine wpAnyH_ready (rs:=[7]) (by kernel_rfl) (by simp) (AllReadyH.cons rfl (fun K hK=>?_) AllReadyH.nil)
     obtain⟨v0,m0⟩:=Bp7.out.2 0 _ rfl
     obtain⟨v1,m1⟩:=Bp7.out.2 1 _ rfl
     obtain⟨v2,m2⟩:=Bp7.out.2 2 _ rfl
     obtain⟨v3,m3⟩:=Bp7.out.2 3 _ rfl
     obtain⟨v4,m4⟩:=Bp7.out.2 4 _ rfl
     obtain⟨v5,m5⟩:=Bp7.out.2 5 _ rfl
     obtain⟨v6,m6⟩:=Bp7.out.2 6 _ rfl
     obtain⟨v7,m7⟩:=Bp7.out.2 7 _ rfl
     go_simp
     have hX:=BX.sets (l':=[.int .i64 rc,.int .i64 rd,.int .i64 rx,.string rp,.slice anp t.nodes.length cnp,.slice aep t.ses.length cep,.int .i64 t.now,.slice amp t.marks.length cmp]) Bp7.out rfl
     have hU:=UpdS.sets yp7 bp7 0 [.int .i64 rc,.int .i64 rd,.int .i64 rx,.string rp,.slice anp t.nodes.length cnp,.slice aep t.ses.length cep,.int .i64 t.now,.slice amp t.marks.length cmp]
     have hE:=Ext.sets Fp7.out Lp7.out.1 0 [.int .i64 rc,.int .i64 rd,.int .i64 rx,.string rp,.slice anp t.nodes.length cnp,.slice aep t.ses.length cep,.int .i64 t.now,.slice amp t.marks.length cmp]
     simp only [sets,Nat.reduceAdd] at hX hU hE
     have Gp8:=got_mk hE hU Lp7.out.1 Dp7.out RSp7.out Bp7.out.1 hX (Rp7.out.upd hU (by have h3:=Dp7.out;omega))
     clear hX hU hE
     refine hK.out _ _ (HS.out _ Gp8.out.1) (fun hHeldp8=>?_)
     clear hK K
     refine wpAnyH_done (by kernel_rfl) ?_ _
     rw [HQ9.out]
     exact⟨bp7,zp5,tp5,anp,aep,amp,cnp,cep,cmp,_,rfl,Gp8.out⟩
    ·go_simp
     obtain⟨bp6,hbp6⟩:∃ b,b=yp3.heap.size:=⟨_,rfl⟩
     have Fp6:Hid (Ext w2 (yp3.alloc (.cells #[.int .i64 0,.int .i64 0,.int .i64 0,.string ⟨#[]⟩,.slice none 0 0,.slice none 0 0,.int .i64 0,.slice none 0 0] 39))):=Fp3.out.alloc _
     have T0p6:=hxat T0p3 ((Ext.refl yp3).alloc (.cells #[.int .i64 0,.int .i64 0,.int .i64 0,.string ⟨#[]⟩,.slice none 0 0,.slice none 0 0,.int .i64 0,.slice none 0 0] 39))
     have Bp6:Hid (BX (yp3.alloc (.cells #[.int .i64 0,.int .i64 0,.int .i64 0,.string ⟨#[]⟩,.slice none 0 0,.slice none 0 0,.int .i64 0,.slice none 0 0] 39)) bp6 [.int .i64 0,.int .i64 0,.int .i64 0,.string ⟨#[]⟩,.slice none 0 0,.slice none 0 0,.int .i64 0,.slice none 0 0]):=by rw [hbp6];exact BX.new yp3 [.int .i64 0,.int .i64 0,.int .i64 0,.string ⟨#[]⟩,.slice none 0 0,.slice none 0 0,.int .i64 0,.slice none 0 0] 39
     have Lp6:Hid (w2.heap.size≤bp6∧(yp3.alloc (.cells #[.int .i64 0,.int .i64 0,.int .i64 0,.string ⟨#[]⟩,.slice none 0 0,.slice none 0 0,.int .i64 0,.slice none 0 0] 39)).heap.size=bp6+1):=⟨by rw [hbp6];exact Fp3.out.size,by rw [hbp6];exact World.size_alloc _ _⟩
     rw [← hbp6]
     clear hbp6
     refine hK.out _ _ (HS.out _ Fp6.out) (fun hHeldp6=>?_)
     clear hK K
     generalize (yp3.alloc (.cells #[.int .i64 0,.int .i64 0,.int .i64 0,.string ⟨#[]⟩,.slice none 0 0,.slice none 0 0,.int .i64 0,.slice none 0 0] 39))=yp6 at *
     refine wpAnyH_ready (rs:=[5]) (by kernel_rfl) (by simp) (AllReadyH.cons rfl (fun K hK=>?_) AllReadyH.nil)
     go_simp
     refine (HSp.out anp0 cnp0 aep0 cep0 amp0 cmp0 _ (E_6.out.trans Fp6.out) T0p6.out.slice).mono ?_
     rintro e yp9 ⟨anp,aep,amp,cnp,cep,cmp,rfl,hR,hb⟩
     obtain⟨zp9,hzp9⟩:∃ z,z=yp6.heap.size:=⟨_,rfl⟩
     obtain⟨tp9,htp9⟩:∃ z,z=yp9.heap.size:=⟨_,rfl⟩
     have RSp9:Hid (w2.heap.size≤zp9∧zp9≤tp9∧tp9≤yp9.heap.size):=⟨by rw [hzp9];exact Fp6.out.size,by rw [hzp9,htp9];exact hb.size,by rw [htp9];exact Nat.le_refl _⟩
     have Dp9:Hid (bp6 < zp9∨tp9≤bp6):=Or.inl (by rw [hzp9];exact Bp6.out.1)
     rw [← hzp9,← htp9] at hR
     have Rp9:Hid (SAt zp9 tp9 yp9 (.slice anp t.nodes.length cnp) (.slice aep t.ses.length cep) (.slice amp t.marks.length cmp) t):=hR
     have Fp9:Hid (Ext w2 yp9):=Fp6.out.trans hb
     have T0p9:=hxat T0p6 hb
     have Bp9:=hxbx Bp6 hb
     clear hb hR hzp9 htp9
     refine hK.out _ _ (HS.out _ Fp9.out) (fun hHeldp9=>?_)
     clear hK K
     refine wpAnyH_ready (rs:=[7]) (by kernel_rfl) (by simp) (AllReadyH.cons rfl (fun K hK=>?_) AllReadyH.nil)
     obtain⟨v0,m0⟩:=Bp9.out.2 0 _ rfl
     obtain⟨v1,m1⟩:=Bp9.out.2 1 _ rfl
     obtain⟨v2,m2⟩:=Bp9.out.2 2 _ rfl
     obtain⟨v3,m3⟩:=Bp9.out.2 3 _ rfl
     obtain⟨v4,m4⟩:=Bp9.out.2 4 _ rfl
     obtain⟨v5,m5⟩:=Bp9.out.2 5 _ rfl
     obtain⟨v6,m6⟩:=Bp9.out.2 6 _ rfl
     obtain⟨v7,m7⟩:=Bp9.out.2 7 _ rfl
     go_simp
     have hX:=BX.sets (l':=[.int .i64 rc,.int .i64 rd,.int .i64 rx,.string rp,.slice anp t.nodes.length cnp,.slice aep t.ses.length cep,.int .i64 t.now,.slice amp t.marks.length cmp]) Bp9.out rfl
     have hU:=UpdS.sets yp9 bp6 0 [.int .i64 rc,.int .i64 rd,.int .i64 rx,.string rp,.slice anp t.nodes.length cnp,.slice aep t.ses.length cep,.int .i64 t.now,.slice amp t.marks.length cmp]
     have hE:=Ext.sets Fp9.out Lp6.out.1 0 [.int .i64 rc,.int .i64 rd,.int .i64 rx,.string rp,.slice anp t.nodes.length cnp,.slice aep t.ses.length cep,.int .i64 t.now,.slice amp t.marks.length cmp]
     simp only [sets,Nat.reduceAdd] at hX hU hE
     have Gp10:=got_mk hE hU Lp6.out.1 Dp9.out RSp9.out Bp9.out.1 hX (Rp9.out.upd hU (by have h3:=Dp9.out;omega))
     clear hX hU hE
     refine hK.out _ _ (HS.out _ Gp10.out.1) (fun hHeldp10=>?_)
     clear hK K
     refine wpAnyH_done (by kernel_rfl) ?_ _
     rw [HQ9.out]
     exact⟨bp6,zp9,tp9,anp,aep,amp,cnp,cep,cmp,_,rfl,Gp10.out⟩
   ·go_simp
    obtain⟨bp4,hbp4⟩:∃ b,b=yp1.heap.size:=⟨_,rfl⟩
    have Fp4:Hid (Ext w2 (yp1.alloc (.cells #[.int .i64 0,.int .i64 0,.int .i64 0,.string ⟨#[]⟩,.slice none 0 0,.slice none 0 0,.int .i64 0,.slice none 0 0] 39))):=Fp1.out.alloc _
    have T0p4:=hxat T0p1 ((Ext.refl yp1).alloc (.cells #[.int .i64 0,.int .i64 0,.int .i64 0,.string ⟨#[]⟩,.slice none 0 0,.slice none 0 0,.int .i64 0,.slice none 0 0] 39))
    have Bp4:Hid (BX (yp1.alloc (.cells #[.int .i64 0,.int .i64 0,.int .i64 0,.string ⟨#[]⟩,.slice none 0 0,.slice none 0 0,.int .i64 0,.slice none 0 0] 39)) bp4 [.int .i64 0,.int .i64 0,.int .i64 0,.string ⟨#[]⟩,.slice none 0 0,.slice none 0 0,.int .i64 0,.slice none 0 0]):=by rw [hbp4];exact BX.new yp1 [.int .i64 0,.int .i64 0,.int .i64 0,.string ⟨#[]⟩,.slice none 0 0,.slice none 0 0,.int .i64 0,.slice none 0 0] 39
    have Lp4:Hid (w2.heap.size≤bp4∧(yp1.alloc (.cells #[.int .i64 0,.int .i64 0,.int .i64 0,.string ⟨#[]⟩,.slice none 0 0,.slice none 0 0,.int .i64 0,.slice none 0 0] 39)).heap.size=bp4+1):=⟨by rw [hbp4];exact Fp1.out.size,by rw [hbp4];exact World.size_alloc _ _⟩
    rw [← hbp4]
    clear hbp4
    refine hK.out _ _ (HS.out _ Fp4.out) (fun hHeldp4=>?_)
    clear hK K
    generalize (yp1.alloc (.cells #[.int .i64 0,.int .i64 0,.int .i64 0,.string ⟨#[]⟩,.slice none 0 0,.slice none 0 0,.int .i64 0,.slice none 0 0] 39))=yp4 at *
    refine wpAnyH_ready (rs:=[4]) (by kernel_rfl) (by simp) (AllReadyH.cons rfl (fun K hK=>?_) AllReadyH.nil)
    go_simp
    refine (HT2.out _ (E_6.out.trans Fp4.out)).mono ?_
    rintro e yp11 ⟨rfl,hb⟩
    have Fp11:Hid (Ext w2 yp11):=Fp4.out.trans hb
    have T0p11:=hxat T0p4 hb
    have Bp11:=hxbx Bp4 hb
    clear hb
    refine hK.out _ _ (HS.out _ Fp11.out) (fun hHeldp11=>?_)
    clear hK K
    refine wpAnyH_ready (rs:=[5]) (by kernel_rfl) (by simp) (AllReadyH.cons rfl (fun K hK=>?_) AllReadyH.nil)
    go_simp
    refine (HSp.out anp0 cnp0 aep0 cep0 amp0 cmp0 _ (E_6.out.trans Fp11.out) T0p11.out.slice).mono ?_
    rintro e yp12 ⟨anp,aep,amp,cnp,cep,cmp,rfl,hR,hb⟩
    obtain⟨zp12,hzp12⟩:∃ z,z=yp11.heap.size:=⟨_,rfl⟩
    obtain⟨tp12,htp12⟩:∃ z,z=yp12.heap.size:=⟨_,rfl⟩
    have RSp12:Hid (w2.heap.size≤zp12∧zp12≤tp12∧tp12≤yp12.heap.size):=⟨by rw [hzp12];exact Fp11.out.size,by rw [hzp12,htp12];exact hb.size,by rw [htp12];exact Nat.le_refl _⟩
    have Dp12:Hid (bp4 < zp12∨tp12≤bp4):=Or.inl (by rw [hzp12];exact Bp11.out.1)
    rw [← hzp12,← htp12] at hR
    have Rp12:Hid (SAt zp12 tp12 yp12 (.slice anp t.nodes.length cnp) (.slice aep t.ses.length cep) (.slice amp t.marks.length cmp) t):=hR
    have Fp12:Hid (Ext w2 yp12):=Fp11.out.trans hb
    have T0p12:=hxat T0p11 hb
    have Bp12:=hxbx Bp11 hb
    clear hb hR hzp12 htp12
    refine hK.out _ _ (HS.out _ Fp12.out) (fun hHeldp12=>?_)
    clear hK K
    refine wpAnyH_ready (rs:=[7]) (by kernel_rfl) (by simp) (AllReadyH.cons rfl (fun K hK=>?_) AllReadyH.nil)
    obtain⟨v0,m0⟩:=Bp12.out.2 0 _ rfl
    obtain⟨v1,m1⟩:=Bp12.out.2 1 _ rfl
    obtain⟨v2,m2⟩:=Bp12.out.2 2 _ rfl
    obtain⟨v3,m3⟩:=Bp12.out.2 3 _ rfl
    obtain⟨v4,m4⟩:=Bp12.out.2 4 _ rfl
    obtain⟨v5,m5⟩:=Bp12.out.2 5 _ rfl
    obtain⟨v6,m6⟩:=Bp12.out.2 6 _ rfl
    obtain⟨v7,m7⟩:=Bp12.out.2 7 _ rfl
    go_simp
    have hX:=BX.sets (l':=[.int .i64 rc,.int .i64 rd,.int .i64 rx,.string rp,.slice anp t.nodes.length cnp,.slice aep t.ses.length cep,.int .i64 t.now,.slice amp t.marks.length cmp]) Bp12.out rfl
    have hU:=UpdS.sets yp12 bp4 0 [.int .i64 rc,.int .i64 rd,.int .i64 rx,.string rp,.slice anp t.nodes.length cnp,.slice aep t.ses.length cep,.int .i64 t.now,.slice amp t.marks.length cmp]
    have hE:=Ext.sets Fp12.out Lp4.out.1 0 [.int .i64 rc,.int .i64 rd,.int .i64 rx,.string rp,.slice anp t.nodes.length cnp,.slice aep t.ses.length cep,.int .i64 t.now,.slice amp t.marks.length cmp]
    simp only [sets,Nat.reduceAdd] at hX hU hE
    have Gp13:=got_mk hE hU Lp4.out.1 Dp12.out RSp12.out Bp12.out.1 hX (Rp12.out.upd hU (by have h3:=Dp12.out;omega))
    clear hX hU hE
    refine hK.out _ _ (HS.out _ Gp13.out.1) (fun hHeldp13=>?_)
    clear hK K
    refine wpAnyH_done (by kernel_rfl) ?_ _
    rw [HQ9.out]
    exact⟨bp4,zp12,tp12,anp,aep,amp,cnp,cep,cmp,_,rfl,Gp13.out⟩
  ·go_simp
   obtain⟨bp2,hbp2⟩:∃ b,b=yp0.heap.size:=⟨_,rfl⟩
   have Fp2:Hid (Ext w2 (yp0.alloc (.cells #[.int .i64 0,.int .i64 0,.int .i64 0,.string ⟨#[]⟩,.slice none 0 0,.slice none 0 0,.int .i64 0,.slice none 0 0] 39))):=FZp.out.alloc _
   have Bp2:Hid (BX (yp0.alloc (.cells #[.int .i64 0,.int .i64 0,.int .i64 0,.string ⟨#[]⟩,.slice none 0 0,.slice none 0 0,.int .i64 0,.slice none 0 0] 39)) bp2 [.int .i64 0,.int .i64 0,.int .i64 0,.string ⟨#[]⟩,.slice none 0 0,.slice none 0 0,.int .i64 0,.slice none 0 0]):=by rw [hbp2];exact BX.new yp0 [.int .i64 0,.int .i64 0,.int .i64 0,.string ⟨#[]⟩,.slice none 0 0,.slice none 0 0,.int .i64 0,.slice none 0 0] 39
   have Lp2:Hid (w2.heap.size≤bp2∧(yp0.alloc (.cells #[.int .i64 0,.int .i64 0,.int .i64 0,.string ⟨#[]⟩,.slice none 0 0,.slice none 0 0,.int .i64 0,.slice none 0 0] 39)).heap.size=bp2+1):=⟨by rw [hbp2];exact FZp.out.size,by rw [hbp2];exact World.size_alloc _ _⟩
   rw [← hbp2]
   clear hbp2
   refine hK.out _ _ (HS.out _ Fp2.out) (fun hHeldp2=>?_)
   clear hK K
   generalize (yp0.alloc (.cells #[.int .i64 0,.int .i64 0,.int .i64 0,.string ⟨#[]⟩,.slice none 0 0,.slice none 0 0,.int .i64 0,.slice none 0 0] 39))=yp2 at *
   refine wpAnyH_ready (rs:=[1]) (by kernel_rfl) (by simp) (AllReadyH.cons rfl (fun K hK=>?_) AllReadyH.nil)
   go_simp
   refine (HT0.out _ (E_6.out.trans Fp2.out)).mono ?_
   rintro e yp14 ⟨anp0,cnp0,aep0,cep0,amp0,cmp0,rfl,hT,hb⟩
   obtain⟨zp14,hzp14⟩:∃ z,z=yp2.heap.size:=⟨_,rfl⟩
   obtain⟨tp14,htp14⟩:∃ z,z=yp14.heap.size:=⟨_,rfl⟩
   rw [← hzp14,← htp14] at hT
   have T0p14:Hid (SAt zp14 tp14 yp14 (.slice anp0 s.nodes.length cnp0) (.slice aep0 s.ses.length cep0) (.slice amp0 s.marks.length cmp0) s):=hT
   have Fp14:Hid (Ext w2 yp14):=Fp2.out.trans hb
   have Bp14:=hxbx Bp2 hb
   clear hb hT hzp14 htp14
   refine hK.out _ _ (HS.out _ Fp14.out) (fun hHeldp14=>?_)
   clear hK K
   refine wpAnyH_ready (rs:=[4]) (by kernel_rfl) (by simp) (AllReadyH.cons rfl (fun K hK=>?_) AllReadyH.nil)
   go_simp
   refine (HT2.out _ (E_6.out.trans Fp14.out)).mono ?_
   rintro e yp15 ⟨rfl,hb⟩
   have Fp15:Hid (Ext w2 yp15):=Fp14.out.trans hb
   have T0p15:=hxat T0p14 hb
   have Bp15:=hxbx Bp14 hb
   clear hb
   refine hK.out _ _ (HS.out _ Fp15.out) (fun hHeldp15=>?_)
   clear hK K
   refine wpAnyH_ready (rs:=[5]) (by kernel_rfl) (by simp) (AllReadyH.cons rfl (fun K hK=>?_) AllReadyH.nil)
   go_simp
   refine (HSp.out anp0 cnp0 aep0 cep0 amp0 cmp0 _ (E_6.out.trans Fp15.out) T0p15.out.slice).mono ?_
   rintro e yp16 ⟨anp,aep,amp,cnp,cep,cmp,rfl,hR,hb⟩
   obtain⟨zp16,hzp16⟩:∃ z,z=yp15.heap.size:=⟨_,rfl⟩
   obtain⟨tp16,htp16⟩:∃ z,z=yp16.heap.size:=⟨_,rfl⟩
   have RSp16:Hid (w2.heap.size≤zp16∧zp16≤tp16∧tp16≤yp16.heap.size):=⟨by rw [hzp16];exact Fp15.out.size,by rw [hzp16,htp16];exact hb.size,by rw [htp16];exact Nat.le_refl _⟩
   have Dp16:Hid (bp2 < zp16∨tp16≤bp2):=Or.inl (by rw [hzp16];exact Bp15.out.1)
   rw [← hzp16,← htp16] at hR
   have Rp16:Hid (SAt zp16 tp16 yp16 (.slice anp t.nodes.length cnp) (.slice aep t.ses.length cep) (.slice amp t.marks.length cmp) t):=hR
   have Fp16:Hid (Ext w2 yp16):=Fp15.out.trans hb
   have T0p16:=hxat T0p15 hb
   have Bp16:=hxbx Bp15 hb
   clear hb hR hzp16 htp16
   refine hK.out _ _ (HS.out _ Fp16.out) (fun hHeldp16=>?_)
   clear hK K
   refine wpAnyH_ready (rs:=[7]) (by kernel_rfl) (by simp) (AllReadyH.cons rfl (fun K hK=>?_) AllReadyH.nil)
   obtain⟨v0,m0⟩:=Bp16.out.2 0 _ rfl
   obtain⟨v1,m1⟩:=Bp16.out.2 1 _ rfl
   obtain⟨v2,m2⟩:=Bp16.out.2 2 _ rfl
   obtain⟨v3,m3⟩:=Bp16.out.2 3 _ rfl
   obtain⟨v4,m4⟩:=Bp16.out.2 4 _ rfl
   obtain⟨v5,m5⟩:=Bp16.out.2 5 _ rfl
   obtain⟨v6,m6⟩:=Bp16.out.2 6 _ rfl
   obtain⟨v7,m7⟩:=Bp16.out.2 7 _ rfl
   go_simp
   have hX:=BX.sets (l':=[.int .i64 rc,.int .i64 rd,.int .i64 rx,.string rp,.slice anp t.nodes.length cnp,.slice aep t.ses.length cep,.int .i64 t.now,.slice amp t.marks.length cmp]) Bp16.out rfl
   have hU:=UpdS.sets yp16 bp2 0 [.int .i64 rc,.int .i64 rd,.int .i64 rx,.string rp,.slice anp t.nodes.length cnp,.slice aep t.ses.length cep,.int .i64 t.now,.slice amp t.marks.length cmp]
   have hE:=Ext.sets Fp16.out Lp2.out.1 0 [.int .i64 rc,.int .i64 rd,.int .i64 rx,.string rp,.slice anp t.nodes.length cnp,.slice aep t.ses.length cep,.int .i64 t.now,.slice amp t.marks.length cmp]
   simp only [sets,Nat.reduceAdd] at hX hU hE
   have Gp17:=got_mk hE hU Lp2.out.1 Dp16.out RSp16.out Bp16.out.1 hX (Rp16.out.upd hU (by have h3:=Dp16.out;omega))
   clear hX hU hE
   refine hK.out _ _ (HS.out _ Gp17.out.1) (fun hHeldp17=>?_)
   clear hK K
   refine wpAnyH_done (by kernel_rfl) ?_ _
   rw [HQ9.out]
   exact⟨bp2,zp16,tp16,anp,aep,amp,cnp,cep,cmp,_,rfl,Gp17.out⟩
 rintro e fr w3 hN
 rw [HQ9.out] at hN
 clear HQ9 HPQ HS
 obtain⟨rfl,hN⟩:=hN.out
 obtain⟨bwp,lop,hip,anp,aep,amp,cnp,cep,cmp,u26xp,rfl,hb,hO,hB,hR⟩:=hN
 obtain⟨zw3,hzw3⟩:∃ z,z=w3.heap.size:=⟨_,rfl⟩
 have OOp:Hid (zw2≤lop∧lop≤hip∧hip≤zw3∧zw2≤bwp∧bwp < zw3∧(bwp < lop∨hip≤bwp)):=(by have:=HZw2.out;have:=hzw3;show _∧_∧_∧_∧_∧_;omega)
 have HZw3:Hid (zw3=w3.heap.size):=hzw3
 clear hO hzw3
 have A0_7:=hxbx A0_4 hb
 have A2_8:=hxbx A2_5 hb
 have E_9:=hxE E_6 hb
 clear A0_4 A2_5 E_6 hb
 have Bp_10:Hid (BX w3 bwp [.int .i64 rc,.int .i64 rd,.int .i64 rx,.string rp,.slice anp t.nodes.length cnp,.slice aep t.ses.length cep,.int .i64 t.now,.slice amp t.marks.length cmp]):=hB
 have Rp_11:Hid (SAt lop hip w3 (.slice anp t.nodes.length cnp) (.slice aep t.ses.length cep) (.slice amp t.marks.length cmp) t):=hR
 clear hB hR
 have cA00:=(A0_7.out.2 0 _ rfl).1
 have cA01:=(A0_7.out.2 1 _ rfl).1
 have cA02:=(A0_7.out.2 2 _ rfl).1
 have cA03:=(A0_7.out.2 3 _ rfl).1
 have lA0:=A0_7.out.1
 go_wp2_with fail
 refine (HT0.out _ E_9.out).mono ?_
 rintro e w4 ⟨anx,cnx,aex,cex,amx,cmx,rfl,hT,hb⟩
 clear cA00 cA01 cA02 cA03 lA0
 rw [← HZw3.out] at hT
 obtain⟨zw4,hzw4⟩:∃ z,z=w4.heap.size:=⟨_,rfl⟩
 rw [← hzw4] at hT
 have Ow4:Hid (zw3≤zw4):=(by have:=HZw3.out;have:=hb.size;show _≤_;omega)
 have HZw4:Hid (zw4=w4.heap.size):=hzw4
 clear hzw4
 have A0_12:=hxbx A0_7 hb
 have A2_13:=hxbx A2_8 hb
 have E_14:=hxE E_9 hb
 have Bp_15:=hxbx Bp_10 hb
 have Rp_16:=hxat Rp_11 hb
 clear A0_7 A2_8 E_9 Bp_10 Rp_11 hb
 have X0_17:Hid (SAt zw3 zw4 w4 (.slice anx s.nodes.length cnx) (.slice aex s.ses.length cex) (.slice amx s.marks.length cmx) s):=hT
 clear hT
 go_wp2
 rw [← HZw4.out]
 have hb:=(Ext.refl w4).alloc (.cells #[.slice anx s.nodes.length cnx,.slice aex s.ses.length cex,.int .i64 s.now,.slice amx s.marks.length cmx] 37)
 have hB:=BX.new w4 [.slice anx s.nodes.length cnx,.slice aex s.ses.length cex,.int .i64 s.now,.slice amx s.marks.length cmx] 37
 rw [← HZw4.out] at hB
 have hs:(w4.alloc (.cells #[.slice anx s.nodes.length cnx,.slice aex s.ses.length cex,.int .i64 s.now,.slice amx s.marks.length cmx] 37)).heap.size=zw4+1:=by rw [HZw4.out];exact World.size_alloc _ _
 generalize w4.alloc (.cells #[.slice anx s.nodes.length cnx,.slice aex s.ses.length cex,.int .i64 s.now,.slice amx s.marks.length cmx] 37)=w5 at *
 obtain⟨zw5,hzw5⟩:∃ z,z=w5.heap.size:=⟨_,rfl⟩
 have Ow5:Hid (zw5=zw4+1):=(by show _=_;omega)
 have HZw5:Hid (zw5=w5.heap.size):=hzw5
 clear hs hzw5
 have A0_18:=hxbx A0_12 hb
 have A2_19:=hxbx A2_13 hb
 have E_20:=hxE E_14 hb
 have Bp_21:=hxbx Bp_15 hb
 have Rp_22:=hxat Rp_16 hb
 have X0_23:=hxat X0_17 hb
 clear A0_12 A2_13 E_14 Bp_15 Rp_16 X0_17 hb
 have XB0_24:Hid (BX w5 zw4 [.slice anx s.nodes.length cnx,.slice aex s.ses.length cex,.int .i64 s.now,.slice amx s.marks.length cmx]):=hB
 clear hB
 have HS:Hid (∀ W',Ext w5 W'→(fun W' : World=>W'.cell? ⟨zw4,0,none⟩=some (.slice anx s.nodes.length cnx)∧W'.cell? ⟨zw4,1,none⟩=some (.slice aex s.ses.length cex)∧W'.cell? ⟨zw4,2,none⟩=some (.int .i64 s.now)∧W'.cell? ⟨zw4,3,none⟩=some (.slice amx s.marks.length cmx)∧W'.cell? ⟨(w.heap.size+1),0,none⟩=some (.int .i64 z.kind)∧W'.cell? ⟨(w.heap.size+1),1,none⟩=some (.string z.path)∧W'.cell? ⟨(w.heap.size+1),2,none⟩=some (.int .i64 z.data)∧W'.cell? ⟨(w.heap.size+1),3,none⟩=some (.int .i64 z.version)∧W'.cell? ⟨(w.heap.size+1),4,none⟩=some (.bool z.seq)∧W'.cell? ⟨(w.heap.size+1),5,none⟩=some (.bool z.own)) W'):=fun W' he=>⟨((XB0_24.out.ext he).2 0 _ rfl).1,((XB0_24.out.ext he).2 1 _ rfl).1,((XB0_24.out.ext he).2 2 _ rfl).1,((XB0_24.out.ext he).2 3 _ rfl).1,((A2_19.out.ext he).2 0 _ rfl).1,((A2_19.out.ext he).2 1 _ rfl).1,((A2_19.out.ext he).2 2 _ rfl).1,((A2_19.out.ext he).2 3 _ rfl).1,((A2_19.out.ext he).2 4 _ rfl).1,((A2_19.out.ext he).2 5 _ rfl).1⟩
 obtain⟨Q9,HQ9⟩:∃ Q9:Exit→Act→World→Prop,Hid (Q9=OnlyY fun fr9 W=>∃ (bw lo hi:Nat) (ang aeg amg:Option Addr) (cng ceg cmg:Nat),fr9 = { tmps:=#[(.agg #[.slice an s.nodes.length cn,.slice ae s.ses.length ce,.int .i64 s.now,.slice am s.marks.length cm]),(.int .i64 c),(.agg #[.int .i64 z.kind,.string z.path,.int .i64 z.data,.int .i64 z.version,.bool z.seq,.bool z.own]),(.pointer (some ⟨w.heap.size,0,none⟩)),undef,(.pointer (some ⟨(w.heap.size+1),0,none⟩)),(.bool false),(.int .i64 q2),(.pointer (some ⟨bwp,0,none⟩)),(.pointer (some ⟨zw4,0,none⟩)),(.pointer (some ⟨bw,0,none⟩)),undef,undef,undef,undef,(.agg #[.slice an s.nodes.length cn,.slice ae s.ses.length ce,.int .i64 s.now,.slice am s.marks.length cm]),(.int .i64 1048576),(.int .i64 q1),(.int .i64 q1),(.bool (decide (q1 < 0))),(.agg #[.int .i64 z.kind,.string z.path,.int .i64 z.data,.int .i64 z.version,.bool z.seq,.bool z.own]),(.int .i64 q1),(.int .i64 q2),(.int .i64 q2),(.bool (decide (q2 < 0))),(.agg #[.slice an s.nodes.length cn,.slice ae s.ses.length ce,.int .i64 s.now,.slice am s.marks.length cm]),u26xp,(.int .i64 c),(.agg #[.int .i64 z.kind,.string z.path,.int .i64 z.data,.int .i64 z.version,.bool z.seq,.bool z.own]),(.agg #[.int .i64 z.kind,.string z.path,.int .i64 z.data,.int .i64 z.version,.bool z.seq,.bool z.own]),(.agg #[.int .i64 rc,.int .i64 rd,.int .i64 rx,.string rp,.slice anp t.nodes.length cnp,.slice aep t.ses.length cep,.int .i64 t.now,.slice amp t.marks.length cmp]),(.agg #[.slice an s.nodes.length cn,.slice ae s.ses.length ce,.int .i64 s.now,.slice am s.marks.length cm]),(.agg #[.slice anx s.nodes.length cnx,.slice aex s.ses.length cex,.int .i64 s.now,.slice amx s.marks.length cmx]),(.agg #[.slice anx s.nodes.length cnx,.slice aex s.ses.length cex,.int .i64 s.now,.slice amx s.marks.length cmx]),(.int .i64 c),(.agg #[.int .i64 z.kind,.string z.path,.int .i64 z.data,.int .i64 z.version,.bool z.seq,.bool z.own]),(.agg #[.int .i64 z.kind,.string z.path,.int .i64 z.data,.int .i64 z.version,.bool z.seq,.bool z.own]),(.agg #[.int .i64 rc,.int .i64 rd,.int .i64 rx,.string rp,.slice ang t.nodes.length cng,.slice aeg t.ses.length ceg,.int .i64 t.now,.slice amg t.marks.length cmg]),undef,undef,undef,undef,undef,undef,undef,undef,undef,undef,undef,undef,undef,undef,undef,undef,undef,undef,undef,undef,undef,undef,undef,undef,undef,undef,undef,undef,undef,undef,undef,undef,undef,undef,undef,undef,undef,undef,undef,undef,undef,undef,undef,undef,undef,undef,undef,undef,undef],defers:=[] }∧Ext w5 W∧(w5.heap.size≤lo∧lo≤hi∧hi≤W.heap.size∧w5.heap.size≤bw∧bw < W.heap.size∧(bw < lo∨hi≤bw))∧BX W bw [.int .i64 rc,.int .i64 rd,.int .i64 rx,.string rp,.slice ang t.nodes.length cng,.slice aeg t.ses.length ceg,.int .i64 t.now,.slice amg t.marks.length cmg]∧SAt lo hi W (.slice ang t.nodes.length cng) (.slice aeg t.ses.length ceg) (.slice amg t.marks.length cmg) t):=⟨_,rfl⟩
 have HPQ:Hid (∀ x a a' w,Q9 (Exit.panic x) a w→Q9 (Exit.panic x) a' w):=by rw [HQ9.out];exact fun x a a' w h=>(h:False).elim
 refine Code.wp_mono (Q:=Q9) ?_ ?_
 rotate_left
 ·refine wp_region_held_drew (S:=(fun W' : World=>W'.cell? ⟨zw4,0,none⟩=some (.slice anx s.nodes.length cnx)∧W'.cell? ⟨zw4,1,none⟩=some (.slice aex s.ses.length cex)∧W'.cell? ⟨zw4,2,none⟩=some (.int .i64 s.now)∧W'.cell? ⟨zw4,3,none⟩=some (.slice amx s.marks.length cmx)∧W'.cell? ⟨(w.heap.size+1),0,none⟩=some (.int .i64 z.kind)∧W'.cell? ⟨(w.heap.size+1),1,none⟩=some (.string z.path)∧W'.cell? ⟨(w.heap.size+1),2,none⟩=some (.int .i64 z.data)∧W'.cell? ⟨(w.heap.size+1),3,none⟩=some (.int .i64 z.version)∧W'.cell? ⟨(w.heap.size+1),4,none⟩=some (.bool z.seq)∧W'.cell? ⟨(w.heap.size+1),5,none⟩=some (.bool z.own))) (by kernel_rfl) (HS.out _ ((Ext.refl _).drew)) (fun hHeld=>?_)
  have FZg:Hid (Ext w5 w5.drew):=(Ext.refl _).drew
  generalize w5.drew=yg0 at *
  refine wpAnyH_take (i := 0) (oi := { dst := some 33, op := Op.load 37 (.tmp 9), type := 37, pos := "exact.go:3026", after := #[], guard := none }) (v := ?_) rfl (by kernel_rfl) (by kernel_rfl) (by kernel_rfl) (fun _ _ _ h => HPQ.out _ _ _ _ h) (Or.inl ⟨by rfl, ?_⟩) (by assumption) ?_
  rotate_left
  ·intro w' hSw;(try dsimp only at hSw);go_simp;try with_reducible rfl
  (try simp only [Act.put,List.setIfInBounds_toArray,List.set_cons_zero,List.set_cons_succ])
  refine wpAnyH_take (i := 1) (oi := { dst := some 34, op := Op.move (.tmp 1), type := 2, pos := "exact.go:3026", after := #[], guard := none }) (v := ?_) rfl (by kernel_rfl) (by kernel_rfl) (by kernel_rfl) (fun _ _ _ h => HPQ.out _ _ _ _ h) (Or.inl ⟨by rfl, ?_⟩) (by assumption) ?_
  rotate_left
  ·intro w' hSw;(try dsimp only at hSw);go_simp;try with_reducible rfl
  (try simp only [Act.put,List.setIfInBounds_toArray,List.set_cons_zero,List.set_cons_succ])
  refine wpAnyH_take (i := 2) (oi := { dst := some 35, op := Op.load 28 (.tmp 5), type := 28, pos := "exact.go:3026", after := #[], guard := none }) (v := ?_) rfl (by kernel_rfl) (by kernel_rfl) (by kernel_rfl) (fun _ _ _ h => HPQ.out _ _ _ _ h) (Or.inl ⟨by rfl, ?_⟩) (by assumption) ?_
  rotate_left
  ·intro w' hSw;(try dsimp only at hSw);go_simp;try with_reducible rfl
  (try simp only [Act.put,List.setIfInBounds_toArray,List.set_cons_zero,List.set_cons_succ])
  refine wpAnyH_ready (rs:=[3,5]) (by kernel_rfl) (by simp) (AllReadyH.cons rfl (fun K hK=>?_) (AllReadyH.cons rfl (fun K hK=>?_) AllReadyH.nil))
  ·go_simp
   refine (HT2.out _ (E_20.out.trans FZg.out)).mono ?_
   rintro e yg1 ⟨rfl,hb⟩
   have Fg1:Hid (Ext w5 yg1):=FZg.out.trans hb
   clear hb
   refine hK.out _ _ (HS.out _ Fg1.out) (fun hHeldg1=>?_)
   clear hK K
   refine wpAnyH_ready (rs:=[4,5]) (by kernel_rfl) (by simp) (AllReadyH.cons rfl (fun K hK=>?_) (AllReadyH.cons rfl (fun K hK=>?_) AllReadyH.nil))
   ·go_simp
    refine (HIm.out anx cnx aex cex amx cmx _ (E_20.out.trans Fg1.out) (X0_23.out.slice.ext Fg1.out)).mono ?_
    rintro e yg3 ⟨ang,aeg,amg,cng,ceg,cmg,rfl,hR,hb⟩
    obtain⟨zg3,hzg3⟩:∃ z,z=yg1.heap.size:=⟨_,rfl⟩
    obtain⟨tg3,htg3⟩:∃ z,z=yg3.heap.size:=⟨_,rfl⟩
    have RSg3:Hid (w5.heap.size≤zg3∧zg3≤tg3∧tg3≤yg3.heap.size):=⟨by rw [hzg3];exact Fg1.out.size,by rw [hzg3,htg3];exact hb.size,by rw [htg3];exact Nat.le_refl _⟩
    rw [← hzg3,← htg3] at hR
    have Rg3:Hid (SAt zg3 tg3 yg3 (.slice ang t.nodes.length cng) (.slice aeg t.ses.length ceg) (.slice amg t.marks.length cmg) t):=hR
    have Fg3:Hid (Ext w5 yg3):=Fg1.out.trans hb
    clear hb hR hzg3 htg3
    refine hK.out _ _ (HS.out _ Fg3.out) (fun hHeldg3=>?_)
    clear hK K
    refine wpAnyH_ready (rs:=[5]) (by kernel_rfl) (by simp) (AllReadyH.cons rfl (fun K hK=>?_) AllReadyH.nil)
    go_simp
    obtain⟨bg5,hbg5⟩:∃ b,b=yg3.heap.size:=⟨_,rfl⟩
    have Fg5:Hid (Ext w5 (yg3.alloc (.cells #[.int .i64 0,.int .i64 0,.int .i64 0,.string ⟨#[]⟩,.slice none 0 0,.slice none 0 0,.int .i64 0,.slice none 0 0] 39))):=Fg3.out.alloc _
    have Rg5:=hxat Rg3 ((Ext.refl yg3).alloc (.cells #[.int .i64 0,.int .i64 0,.int .i64 0,.string ⟨#[]⟩,.slice none 0 0,.slice none 0 0,.int .i64 0,.slice none 0 0] 39))
    have Bg5:Hid (BX (yg3.alloc (.cells #[.int .i64 0,.int .i64 0,.int .i64 0,.string ⟨#[]⟩,.slice none 0 0,.slice none 0 0,.int .i64 0,.slice none 0 0] 39)) bg5 [.int .i64 0,.int .i64 0,.int .i64 0,.string ⟨#[]⟩,.slice none 0 0,.slice none 0 0,.int .i64 0,.slice none 0 0]):=by rw [hbg5];exact BX.new yg3 [.int .i64 0,.int .i64 0,.int .i64 0,.string ⟨#[]⟩,.slice none 0 0,.slice none 0 0,.int .i64 0,.slice none 0 0] 39
    have Lg5:Hid (w5.heap.size≤bg5∧(yg3.alloc (.cells #[.int .i64 0,.int .i64 0,.int .i64 0,.string ⟨#[]⟩,.slice none 0 0,.slice none 0 0,.int .i64 0,.slice none 0 0] 39)).heap.size=bg5+1):=⟨by rw [hbg5];exact Fg3.out.size,by rw [hbg5];exact World.size_alloc _ _⟩
    have Dg5:Hid (bg5 < zg3∨tg3≤bg5):=Or.inr (by have:=RSg3.out;omega)
    have RSg5:Hid (w5.heap.size≤zg3∧zg3≤tg3∧tg3≤(yg3.alloc (.cells #[.int .i64 0,.int .i64 0,.int .i64 0,.string ⟨#[]⟩,.slice none 0 0,.slice none 0 0,.int .i64 0,.slice none 0 0] 39)).heap.size):=(by have h1:=RSg3.out;have h2:=Lg5.out;have h3:=hbg5;show _∧_∧_;omega)
    rw [← hbg5]
    clear hbg5
    refine hK.out _ _ (HS.out _ Fg5.out) (fun hHeldg5=>?_)
    clear hK K
    generalize (yg3.alloc (.cells #[.int .i64 0,.int .i64 0,.int .i64 0,.string ⟨#[]⟩,.slice none 0 0,.slice none 0 0,.int .i64 0,.slice none 0 0] 39))=yg5 at *
    refine wpAnyH_ready (rs:=[6]) (by kernel_rfl) (by simp) (AllReadyH.cons rfl (fun K hK=>?_) AllReadyH.nil)
    obtain⟨v0,m0⟩:=Bg5.out.2 0 _ rfl
    obtain⟨v1,m1⟩:=Bg5.out.2 1 _ rfl
    obtain⟨v2,m2⟩:=Bg5.out.2 2 _ rfl
    obtain⟨v3,m3⟩:=Bg5.out.2 3 _ rfl
    obtain⟨v4,m4⟩:=Bg5.out.2 4 _ rfl
    obtain⟨v5,m5⟩:=Bg5.out.2 5 _ rfl
    obtain⟨v6,m6⟩:=Bg5.out.2 6 _ rfl
    obtain⟨v7,m7⟩:=Bg5.out.2 7 _ rfl
    go_simp
    have hX:=BX.sets (l':=[.int .i64 rc,.int .i64 rd,.int .i64 rx,.string rp,.slice ang t.nodes.length cng,.slice aeg t.ses.length ceg,.int .i64 t.now,.slice amg t.marks.length cmg]) Bg5.out rfl
    have hU:=UpdS.sets yg5 bg5 0 [.int .i64 rc,.int .i64 rd,.int .i64 rx,.string rp,.slice ang t.nodes.length cng,.slice aeg t.ses.length ceg,.int .i64 t.now,.slice amg t.marks.length cmg]
    have hE:=Ext.sets Fg5.out Lg5.out.1 0 [.int .i64 rc,.int .i64 rd,.int .i64 rx,.string rp,.slice ang t.nodes.length cng,.slice aeg t.ses.length ceg,.int .i64 t.now,.slice amg t.marks.length cmg]
    simp only [sets,Nat.reduceAdd] at hX hU hE
    have Gg6:=got_mk hE hU Lg5.out.1 Dg5.out RSg5.out Bg5.out.1 hX (Rg5.out.upd hU (by have h3:=Dg5.out;omega))
    clear hX hU hE
    refine hK.out _ _ (HS.out _ Gg6.out.1) (fun hHeldg6=>?_)
    clear hK K
    refine wpAnyH_done (by kernel_rfl) ?_ _
    rw [HQ9.out]
    exact⟨bg5,zg3,tg3,ang,aeg,amg,cng,ceg,cmg,rfl,Gg6.out⟩
   ·go_simp
    obtain⟨bg4,hbg4⟩:∃ b,b=yg1.heap.size:=⟨_,rfl⟩
    have Fg4:Hid (Ext w5 (yg1.alloc (.cells #[.int .i64 0,.int .i64 0,.int .i64 0,.string ⟨#[]⟩,.slice none 0 0,.slice none 0 0,.int .i64 0,.slice none 0 0] 39))):=Fg1.out.alloc _
    have Bg4:Hid (BX (yg1.alloc (.cells #[.int .i64 0,.int .i64 0,.int .i64 0,.string ⟨#[]⟩,.slice none 0 0,.slice none 0 0,.int .i64 0,.slice none 0 0] 39)) bg4 [.int .i64 0,.int .i64 0,.int .i64 0,.string ⟨#[]⟩,.slice none 0 0,.slice none 0 0,.int .i64 0,.slice none 0 0]):=by rw [hbg4];exact BX.new yg1 [.int .i64 0,.int .i64 0,.int .i64 0,.string ⟨#[]⟩,.slice none 0 0,.slice none 0 0,.int .i64 0,.slice none 0 0] 39
    have Lg4:Hid (w5.heap.size≤bg4∧(yg1.alloc (.cells #[.int .i64 0,.int .i64 0,.int .i64 0,.string ⟨#[]⟩,.slice none 0 0,.slice none 0 0,.int .i64 0,.slice none 0 0] 39)).heap.size=bg4+1):=⟨by rw [hbg4];exact Fg1.out.size,by rw [hbg4];exact World.size_alloc _ _⟩
    rw [← hbg4]
    clear hbg4
    refine hK.out _ _ (HS.out _ Fg4.out) (fun hHeldg4=>?_)
    clear hK K
    generalize (yg1.alloc (.cells #[.int .i64 0,.int .i64 0,.int .i64 0,.string ⟨#[]⟩,.slice none 0 0,.slice none 0 0,.int .i64 0,.slice none 0 0] 39))=yg4 at *
    refine wpAnyH_ready (rs:=[4]) (by kernel_rfl) (by simp) (AllReadyH.cons rfl (fun K hK=>?_) AllReadyH.nil)
    go_simp
    refine (HIm.out anx cnx aex cex amx cmx _ (E_20.out.trans Fg4.out) (X0_23.out.slice.ext Fg4.out)).mono ?_
    rintro e yg7 ⟨ang,aeg,amg,cng,ceg,cmg,rfl,hR,hb⟩
    obtain⟨zg7,hzg7⟩:∃ z,z=yg4.heap.size:=⟨_,rfl⟩
    obtain⟨tg7,htg7⟩:∃ z,z=yg7.heap.size:=⟨_,rfl⟩
    have RSg7:Hid (w5.heap.size≤zg7∧zg7≤tg7∧tg7≤yg7.heap.size):=⟨by rw [hzg7];exact Fg4.out.size,by rw [hzg7,htg7];exact hb.size,by rw [htg7];exact Nat.le_refl _⟩
    have Dg7:Hid (bg4 < zg7∨tg7≤bg4):=Or.inl (by rw [hzg7];exact Bg4.out.1)
    rw [← hzg7,← htg7] at hR
    have Rg7:Hid (SAt zg7 tg7 yg7 (.slice ang t.nodes.length cng) (.slice aeg t.ses.length ceg) (.slice amg t.marks.length cmg) t):=hR
    have Fg7:Hid (Ext w5 yg7):=Fg4.out.trans hb
    have Bg7:=hxbx Bg4 hb
    clear hb hR hzg7 htg7
    refine hK.out _ _ (HS.out _ Fg7.out) (fun hHeldg7=>?_)
    clear hK K
    refine wpAnyH_ready (rs:=[6]) (by kernel_rfl) (by simp) (AllReadyH.cons rfl (fun K hK=>?_) AllReadyH.nil)
    obtain⟨v0,m0⟩:=Bg7.out.2 0 _ rfl
    obtain⟨v1,m1⟩:=Bg7.out.2 1 _ rfl
    obtain⟨v2,m2⟩:=Bg7.out.2 2 _ rfl
    obtain⟨v3,m3⟩:=Bg7.out.2 3 _ rfl
    obtain⟨v4,m4⟩:=Bg7.out.2 4 _ rfl
    obtain⟨v5,m5⟩:=Bg7.out.2 5 _ rfl
    obtain⟨v6,m6⟩:=Bg7.out.2 6 _ rfl
    obtain⟨v7,m7⟩:=Bg7.out.2 7 _ rfl
    go_simp
    have hX:=BX.sets (l':=[.int .i64 rc,.int .i64 rd,.int .i64 rx,.string rp,.slice ang t.nodes.length cng,.slice aeg t.ses.length ceg,.int .i64 t.now,.slice amg t.marks.length cmg]) Bg7.out rfl
    have hU:=UpdS.sets yg7 bg4 0 [.int .i64 rc,.int .i64 rd,.int .i64 rx,.string rp,.slice ang t.nodes.length cng,.slice aeg t.ses.length ceg,.int .i64 t.now,.slice amg t.marks.length cmg]
    have hE:=Ext.sets Fg7.out Lg4.out.1 0 [.int .i64 rc,.int .i64 rd,.int .i64 rx,.string rp,.slice ang t.nodes.length cng,.slice aeg t.ses.length ceg,.int .i64 t.now,.slice amg t.marks.length cmg]
    simp only [sets,Nat.reduceAdd] at hX hU hE
    have Gg8:=got_mk hE hU Lg4.out.1 Dg7.out RSg7.out Bg7.out.1 hX (Rg7.out.upd hU (by have h3:=Dg7.out;omega))
    clear hX hU hE
    refine hK.out _ _ (HS.out _ Gg8.out.1) (fun hHeldg8=>?_)
    clear hK K
    refine wpAnyH_done (by kernel_rfl) ?_ _
    rw [HQ9.out]
    exact⟨bg4,zg7,tg7,ang,aeg,amg,cng,ceg,cmg,rfl,Gg8.out⟩
  ·go_simp
   obtain⟨bg2,hbg2⟩:∃ b,b=yg0.heap.size:=⟨_,rfl⟩
   have Fg2:Hid (Ext w5 (yg0.alloc (.cells #[.int .i64 0,.int .i64 0,.int .i64 0,.string ⟨#[]⟩,.slice none 0 0,.slice none 0 0,.int .i64 0,.slice none 0 0] 39))):=FZg.out.alloc _
   have Bg2:Hid (BX (yg0.alloc (.cells #[.int .i64 0,.int .i64 0,.int .i64 0,.string ⟨#[]⟩,.slice none 0 0,.slice none 0 0,.int .i64 0,.slice none 0 0] 39)) bg2 [.int .i64 0,.int .i64 0,.int .i64 0,.string ⟨#[]⟩,.slice none 0 0,.slice none 0 0,.int .i64 0,.slice none 0 0]):=by rw [hbg2];exact BX.new yg0 [.int .i64 0,.int .i64 0,.int .i64 0,.string ⟨#[]⟩,.slice none 0 0,.slice none 0 0,.int .i64 0,.slice none 0 0] 39
   have Lg2:Hid (w5.heap.size≤bg2∧(yg0.alloc (.cells #[.int .i64 0,.int .i64 0,.int .i64 0,.string ⟨#[]⟩,.slice none 0 0,.slice none 0 0,.int .i64 0,.slice none 0 0] 39)).heap.size=bg2+1):=⟨by rw [hbg2];exact FZg.out.size,by rw [hbg2];exact World.size_alloc _ _⟩
   rw [← hbg2]
   clear hbg2
   refine hK.out _ _ (HS.out _ Fg2.out) (fun hHeldg2=>?_)
   clear hK K
   generalize (yg0.alloc (.cells #[.int .i64 0,.int .i64 0,.int .i64 0,.string ⟨#[]⟩,.slice none 0 0,.slice none 0 0,.int .i64 0,.slice none 0 0] 39))=yg2 at *
   refine wpAnyH_ready (rs:=[3]) (by kernel_rfl) (by simp) (AllReadyH.cons rfl (fun K hK=>?_) AllReadyH.nil)
   go_simp
   refine (HT2.out _ (E_20.out.trans Fg2.out)).mono ?_
   rintro e yg9 ⟨rfl,hb⟩
   have Fg9:Hid (Ext w5 yg9):=Fg2.out.trans hb
   have Bg9:=hxbx Bg2 hb
   clear hb
   refine hK.out _ _ (HS.out _ Fg9.out) (fun hHeldg9=>?_)
   clear hK K
   refine wpAnyH_ready (rs:=[4]) (by kernel_rfl) (by simp) (AllReadyH.cons rfl (fun K hK=>?_) AllReadyH.nil)
   go_simp
   refine (HIm.out anx cnx aex cex amx cmx _ (E_20.out.trans Fg9.out) (X0_23.out.slice.ext Fg9.out)).mono ?_
   rintro e yg10 ⟨ang,aeg,amg,cng,ceg,cmg,rfl,hR,hb⟩
   obtain⟨zg10,hzg10⟩:∃ z,z=yg9.heap.size:=⟨_,rfl⟩
   obtain⟨tg10,htg10⟩:∃ z,z=yg10.heap.size:=⟨_,rfl⟩
   have RSg10:Hid (w5.heap.size≤zg10∧zg10≤tg10∧tg10≤yg10.heap.size):=⟨by rw [hzg10];exact Fg9.out.size,by rw [hzg10,htg10];exact hb.size,by rw [htg10];exact Nat.le_refl _⟩
   have Dg10:Hid (bg2 < zg10∨tg10≤bg2):=Or.inl (by rw [hzg10];exact Bg9.out.1)
   rw [← hzg10,← htg10] at hR
   have Rg10:Hid (SAt zg10 tg10 yg10 (.slice ang t.nodes.length cng) (.slice aeg t.ses.length ceg) (.slice amg t.marks.length cmg) t):=hR
   have Fg10:Hid (Ext w5 yg10):=Fg9.out.trans hb
   have Bg10:=hxbx Bg9 hb
   clear hb hR hzg10 htg10
   refine hK.out _ _ (HS.out _ Fg10.out) (fun hHeldg10=>?_)
   clear hK K
   refine wpAnyH_ready (rs:=[6]) (by kernel_rfl) (by simp) (AllReadyH.cons rfl (fun K hK=>?_) AllReadyH.nil)
   obtain⟨v0,m0⟩:=Bg10.out.2 0 _ rfl
   obtain⟨v1,m1⟩:=Bg10.out.2 1 _ rfl
   obtain⟨v2,m2⟩:=Bg10.out.2 2 _ rfl
   obtain⟨v3,m3⟩:=Bg10.out.2 3 _ rfl
   obtain⟨v4,m4⟩:=Bg10.out.2 4 _ rfl
   obtain⟨v5,m5⟩:=Bg10.out.2 5 _ rfl
   obtain⟨v6,m6⟩:=Bg10.out.2 6 _ rfl
   obtain⟨v7,m7⟩:=Bg10.out.2 7 _ rfl
   go_simp
   have hX:=BX.sets (l':=[.int .i64 rc,.int .i64 rd,.int .i64 rx,.string rp,.slice ang t.nodes.length cng,.slice aeg t.ses.length ceg,.int .i64 t.now,.slice amg t.marks.length cmg]) Bg10.out rfl
   have hU:=UpdS.sets yg10 bg2 0 [.int .i64 rc,.int .i64 rd,.int .i64 rx,.string rp,.slice ang t.nodes.length cng,.slice aeg t.ses.length ceg,.int .i64 t.now,.slice amg t.marks.length cmg]
   have hE:=Ext.sets Fg10.out Lg2.out.1 0 [.int .i64 rc,.int .i64 rd,.int .i64 rx,.string rp,.slice ang t.nodes.length cng,.slice aeg t.ses.length ceg,.int .i64 t.now,.slice amg t.marks.length cmg]
   simp only [sets,Nat.reduceAdd] at hX hU hE
   have Gg11:=got_mk hE hU Lg2.out.1 Dg10.out RSg10.out Bg10.out.1 hX (Rg10.out.upd hU (by have h3:=Dg10.out;omega))
   clear hX hU hE
   refine hK.out _ _ (HS.out _ Gg11.out.1) (fun hHeldg11=>?_)
   clear hK K
   refine wpAnyH_done (by kernel_rfl) ?_ _
   rw [HQ9.out]
   exact⟨bg2,zg10,tg10,ang,aeg,amg,cng,ceg,cmg,rfl,Gg11.out⟩
 rintro e fr w6 hN
 rw [HQ9.out] at hN
 clear HQ9 HPQ HS
 obtain⟨rfl,hN⟩:=hN.out
 obtain⟨bwg,log,hig,ang,aeg,amg,cng,ceg,cmg,rfl,hb,hO,hB,hR⟩:=hN
 obtain⟨zw6,hzw6⟩:∃ z,z=w6.heap.size:=⟨_,rfl⟩
 have OOg:Hid (zw5≤log∧log≤hig∧hig≤zw6∧zw5≤bwg∧bwg < zw6∧(bwg < log∨hig≤bwg)):=(by have:=HZw5.out;have:=hzw6;show _∧_∧_∧_∧_∧_;omega)
 have HZw6:Hid (zw6=w6.heap.size):=hzw6
 clear hO hzw6
 have A0_25:=hxbx A0_18 hb
 have A2_26:=hxbx A2_19 hb
 have E_27:=hxE E_20 hb
 have Bp_28:=hxbx Bp_21 hb
 have Rp_29:=hxat Rp_22 hb
 have X0_30:=hxat X0_23 hb
 have XB0_31:=hxbx XB0_24 hb
 clear A0_18 A2_19 E_20 Bp_21 Rp_22 X0_23 XB0_24 hb
 have Bg_32:Hid (BX w6 bwg [.int .i64 rc,.int .i64 rd,.int .i64 rx,.string rp,.slice ang t.nodes.length cng,.slice aeg t.ses.length ceg,.int .i64 t.now,.slice amg t.marks.length cmg]):=hB
 have Rg_33:Hid (SAt log hig w6 (.slice ang t.nodes.length cng) (.slice aeg t.ses.length ceg) (.slice amg t.marks.length cmg) t):=hR
 clear hB hR
 have cBg0:=(Bg_32.out.2 0 _ rfl).1
 have cBg1:=(Bg_32.out.2 1 _ rfl).1
 have cBg2:=(Bg_32.out.2 2 _ rfl).1
 have cBg3:=(Bg_32.out.2 3 _ rfl).1
 have cBg4:=(Bg_32.out.2 4 _ rfl).1
 have cBg5:=(Bg_32.out.2 5 _ rfl).1
 have cBg6:=(Bg_32.out.2 6 _ rfl).1
 have cBg7:=(Bg_32.out.2 7 _ rfl).1
 have lBg:=Bg_32.out.1
 have cBp0:=(Bp_28.out.2 0 _ rfl).1
 have cBp1:=(Bp_28.out.2 1 _ rfl).1
 have cBp2:=(Bp_28.out.2 2 _ rfl).1
 have cBp3:=(Bp_28.out.2 3 _ rfl).1
 have cBp4:=(Bp_28.out.2 4 _ rfl).1
 have cBp5:=(Bp_28.out.2 5 _ rfl).1
 have cBp6:=(Bp_28.out.2 6 _ rfl).1
 have cBp7:=(Bp_28.out.2 7 _ rfl).1
 have lBp:=Bp_28.out.1
 go_wp2_with fail
 refine (HEq.out ang aeg amg cng ceg cmg anp aep amp cnp cep cmp _ Rg_33.out.slice Rp_29.out.slice).mono ?_
 rintro e w7 ⟨rfl,hb⟩
 clear cBg0 cBg1 cBg2 cBg3 cBg4 cBg5 cBg6 cBg7 lBg cBp0 cBp1 cBp2 cBp3 cBp4 cBp5 cBp6 cBp7 lBp
 have A0_34:=hxbx A0_25 hb
 have A2_35:=hxbx A2_26 hb
 have E_36:=hxE E_27 hb
 have Bp_37:=hxbx Bp_28 hb
 have Rp_38:=hxat Rp_29 hb
 have X0_39:=hxat X0_30 hb
 have XB0_40:=hxbx XB0_31 hb
 have Bg_41:=hxbx Bg_32 hb
 have Rg_42:=hxat Rg_33 hb
 clear A0_25 A2_26 E_27 Bp_28 Rp_29 X0_30 XB0_31 Bg_32 Rg_33 hb
 have HS:Hid (∀ W',Ext w7 W'→(fun W' : World=>W'.cell? ⟨zw4,0,none⟩=some (.slice anx s.nodes.length cnx)∧W'.cell? ⟨zw4,1,none⟩=some (.slice aex s.ses.length cex)∧W'.cell? ⟨zw4,2,none⟩=some (.int .i64 s.now)∧W'.cell? ⟨zw4,3,none⟩=some (.slice amx s.marks.length cmx)∧W'.cell? ⟨w.heap.size,0,none⟩=some (.slice an s.nodes.length cn)∧W'.cell? ⟨w.heap.size,1,none⟩=some (.slice ae s.ses.length ce)∧W'.cell? ⟨w.heap.size,2,none⟩=some (.int .i64 s.now)∧W'.cell? ⟨w.heap.size,3,none⟩=some (.slice am s.marks.length cm)) W'):=fun W' he=>⟨((XB0_40.out.ext he).2 0 _ rfl).1,((XB0_40.out.ext he).2 1 _ rfl).1,((XB0_40.out.ext he).2 2 _ rfl).1,((XB0_40.out.ext he).2 3 _ rfl).1,((A0_34.out.ext he).2 0 _ rfl).1,((A0_34.out.ext he).2 1 _ rfl).1,((A0_34.out.ext he).2 2 _ rfl).1,((A0_34.out.ext he).2 3 _ rfl).1⟩
 go_wp2
 refine wp_region_held_drew (S:=(fun W' : World=>W'.cell? ⟨zw4,0,none⟩=some (.slice anx s.nodes.length cnx)∧W'.cell? ⟨zw4,1,none⟩=some (.slice aex s.ses.length cex)∧W'.cell? ⟨zw4,2,none⟩=some (.int .i64 s.now)∧W'.cell? ⟨zw4,3,none⟩=some (.slice amx s.marks.length cmx)∧W'.cell? ⟨w.heap.size,0,none⟩=some (.slice an s.nodes.length cn)∧W'.cell? ⟨w.heap.size,1,none⟩=some (.slice ae s.ses.length ce)∧W'.cell? ⟨w.heap.size,2,none⟩=some (.int .i64 s.now)∧W'.cell? ⟨w.heap.size,3,none⟩=some (.slice am s.marks.length cm))) (by kernel_rfl) (HS.out _ ((Ext.refl _).drew)) (fun hHeld=>?_)
 have FEe0:Hid (Ext w7 w7.drew):=(Ext.refl _).drew
 generalize w7.drew=yee0 at *
 refine tk 0 ⟨some 42,.load 37 (.tmp 9),37,oz9,#[],none⟩ ?_
 refine tk 1 ⟨some 43,.load 26 (.tmp 3),26,oz9,#[],none⟩ ?_
 refine wpAnyH_ready (rs:=[2]) (by kernel_rfl) (by simp) (AllReadyH.cons rfl (fun K hK=>?_) AllReadyH.nil)
 go_simp
 refine (HT0.out _ (E_36.out.trans FEe0.out)).mono ?_
 rintro e yee1 ⟨ane,cne,aee,cee,ame,cme,rfl,hT,hb⟩
 have TEe:Hid _:=hT.slice
 clear hT
 have FEe1:Hid (Ext w7 yee1):=FEe0.out.trans hb
 clear hb
 refine hK.out _ _ (HS.out _ FEe1.out) (fun hHeldE1=>?_)
 clear hK K
 refine wpAnyH_ready (rs:=[3]) (by kernel_rfl) (by simp) (AllReadyH.cons rfl (fun K hK=>?_) AllReadyH.nil)
 go_simp
 refine (HEa0.out anx cnx aex cex amx cmx ane cne aee cee ame cme _ (X0_39.out.slice.ext FEe1.out) TEe.out).mono ?_
 rintro e yee2 ⟨rfl,hb⟩
 have FEe2:Hid (Ext w7 yee2):=FEe1.out.trans hb
 clear hb
 refine hK.out _ _ (HS.out _ FEe2.out) (fun hHeldE2=>?_)
 clear hK K
 refine tk 4 ⟨some 46,.unOp .not 4 (.tmp 45),4,oz9,#[⟨3,.data⟩],none⟩ ?_
 refine wpAnyH_done (by kernel_rfl) ?_ _
 clear TEe HS
 have hb:=FEe2.out
 clear FEe0 FEe1 FEe2
 have A0_43:=hxbx A0_34 hb
 have A2_44:=hxbx A2_35 hb
 have E_45:=hxE E_36 hb
 have Bp_46:=hxbx Bp_37 hb
 have Rp_47:=hxat Rp_38 hb
 have X0_48:=hxat X0_39 hb
 have XB0_49:=hxbx XB0_40 hb
 have Bg_50:=hxbx Bg_41 hb
 have Rg_51:=hxat Rg_42 hb
 clear A0_34 A2_35 E_36 Bp_37 Rp_38 X0_39 XB0_40 Bg_41 Rg_42 hb
 have cXB00:=(XB0_49.out.2 0 _ rfl).1
 have cXB01:=(XB0_49.out.2 1 _ rfl).1
 have cXB02:=(XB0_49.out.2 2 _ rfl).1
 have cXB03:=(XB0_49.out.2 3 _ rfl).1
 have lXB0:=XB0_49.out.1
 go_wp2_with fail
 refine (HMk0.out zw3 zw4 anx cnx aex cex amx cmx _  X0_48.out).mono ?_
 rintro e w8 ⟨kk,rfl,hkk,hu⟩
 clear cXB00 cXB01 cXB02 cXB03 lXB0
 have A0_52:=hubx A0_43 hu (by have:=OZw2.out;have:=OOp.out;have:=Ow4.out;have:=Ow5.out;have:=OOg.out;omega)
 have A2_53:=hubx A2_44 hu (by have:=OZw2.out;have:=OOp.out;have:=Ow4.out;have:=Ow5.out;have:=OOg.out;omega)
 have E_54:=huE E_45 hu (by have:=OZw2.out;have:=OOp.out;have:=Ow4.out;have:=Ow5.out;have:=OOg.out;omega)
 have Bp_55:=hubx Bp_46 hu (by have:=OZw2.out;have:=OOp.out;have:=Ow4.out;have:=Ow5.out;have:=OOg.out;omega)
 have Rp_56:=huat Rp_47 hu (by have:=OZw2.out;have:=OOp.out;have:=Ow4.out;have:=Ow5.out;have:=OOg.out;omega)
 have XB0_57:=hubx XB0_49 hu (by have:=OZw2.out;have:=OOp.out;have:=Ow4.out;have:=Ow5.out;have:=OOg.out;omega)
 have Bg_58:=hubx Bg_50 hu (by have:=OZw2.out;have:=OOp.out;have:=Ow4.out;have:=Ow5.out;have:=OOg.out;omega)
 have Rg_59:=huat Rg_51 hu (by have:=OZw2.out;have:=OOp.out;have:=Ow4.out;have:=Ow5.out;have:=OOg.out;omega)
 clear hu A0_43 A2_44 E_45 Bp_46 Rp_47 X0_48 XB0_49 Bg_50 Rg_51
 have cBg0:=(Bg_58.out.2 0 _ rfl).1
 have cBg1:=(Bg_58.out.2 1 _ rfl).1
 have cBg2:=(Bg_58.out.2 2 _ rfl).1
 have cBg3:=(Bg_58.out.2 3 _ rfl).1
 have cBg4:=(Bg_58.out.2 4 _ rfl).1
 have cBg5:=(Bg_58.out.2 5 _ rfl).1
 have cBg6:=(Bg_58.out.2 6 _ rfl).1
 have cBg7:=(Bg_58.out.2 7 _ rfl).1
 have lBg:=Bg_58.out.1
 have cBp0:=(Bp_55.out.2 0 _ rfl).1
 have cBp1:=(Bp_55.out.2 1 _ rfl).1
 have cBp2:=(Bp_55.out.2 2 _ rfl).1
 have cBp3:=(Bp_55.out.2 3 _ rfl).1
 have cBp4:=(Bp_55.out.2 4 _ rfl).1
 have cBp5:=(Bp_55.out.2 5 _ rfl).1
 have cBp6:=(Bp_55.out.2 6 _ rfl).1
 have cBp7:=(Bp_55.out.2 7 _ rfl).1
 have lBp:=Bp_55.out.1
 go_wp2_with fail
 refine (HEq.out ang aeg amg cng ceg cmg anp aep amp cnp cep cmp _ Rg_59.out.slice Rp_56.out.slice).mono ?_
 rintro e w9 ⟨rfl,hb⟩
 clear cBg0 cBg1 cBg2 cBg3 cBg4 cBg5 cBg6 cBg7 lBg cBp0 cBp1 cBp2 cBp3 cBp4 cBp5 cBp6 cBp7 lBp
 have A0_60:=hxbx A0_52 hb
 have A2_61:=hxbx A2_53 hb
 have E_62:=hxE E_54 hb
 have Bp_63:=hxbx Bp_55 hb
 have Rp_64:=hxat Rp_56 hb
 have XB0_65:=hxbx XB0_57 hb
 have Bg_66:=hxbx Bg_58 hb
 have Rg_67:=hxat Rg_59 hb
 clear A0_52 A2_53 E_54 Bp_55 Rp_56 XB0_57 Bg_58 Rg_59 hb
 have cBg0:=(Bg_66.out.2 0 _ rfl).1
 have cBg1:=(Bg_66.out.2 1 _ rfl).1
 have cBg2:=(Bg_66.out.2 2 _ rfl).1
 have cBg3:=(Bg_66.out.2 3 _ rfl).1
 have cBg4:=(Bg_66.out.2 4 _ rfl).1
 have cBg5:=(Bg_66.out.2 5 _ rfl).1
 have cBg6:=(Bg_66.out.2 6 _ rfl).1
 have cBg7:=(Bg_66.out.2 7 _ rfl).1
 have lBg:=Bg_66.out.1
 go_wp2_with fail
 refine (HMi.out log hig ang aeg amg cng ceg cmg _ Rg_67.out).mono ?_
 rintro e w10 ⟨rfl,hM,hu⟩
 clear cBg0 cBg1 cBg2 cBg3 cBg4 cBg5 cBg6 cBg7 lBg
 have HMw10:Hid _:=hM
 clear hM
 have A0_68:=hubx A0_60 hu (by have:=OZw2.out;have:=OOp.out;have:=Ow4.out;have:=Ow5.out;have:=OOg.out;omega)
 have A2_69:=hubx A2_61 hu (by have:=OZw2.out;have:=OOp.out;have:=Ow4.out;have:=Ow5.out;have:=OOg.out;omega)
 have E_70:=huE E_62 hu (by have:=OZw2.out;have:=OOp.out;have:=Ow4.out;have:=Ow5.out;have:=OOg.out;omega)
 have Bp_71:=hubx Bp_63 hu (by have:=OZw2.out;have:=OOp.out;have:=Ow4.out;have:=Ow5.out;have:=OOg.out;omega)
 have Rp_72:=huat Rp_64 hu (by have:=OZw2.out;have:=OOp.out;have:=Ow4.out;have:=Ow5.out;have:=OOg.out;omega)
 have XB0_73:=hubx XB0_65 hu (by have:=OZw2.out;have:=OOp.out;have:=Ow4.out;have:=Ow5.out;have:=OOg.out;omega)
 have Bg_74:=hubx Bg_66 hu (by have:=OZw2.out;have:=OOp.out;have:=Ow4.out;have:=Ow5.out;have:=OOg.out;omega)
 clear hu A0_60 A2_61 E_62 Bp_63 Rp_64 XB0_65 Bg_66 Rg_67
 have Mg_0:Hid (SAt log hig w10 (.slice ang t.nodes.length cng) (.slice aeg t.ses.length ceg) (.slice amg t.marks.length cmg) (msT 1 t)):=HMw10.out
 clear HMw10
 have cBg0:=(Bg_74.out.2 0 _ rfl).1
 have cBg1:=(Bg_74.out.2 1 _ rfl).1
 have cBg2:=(Bg_74.out.2 2 _ rfl).1
 have cBg3:=(Bg_74.out.2 3 _ rfl).1
 have cBg4:=(Bg_74.out.2 4 _ rfl).1
 have cBg5:=(Bg_74.out.2 5 _ rfl).1
 have cBg6:=(Bg_74.out.2 6 _ rfl).1
 have cBg7:=(Bg_74.out.2 7 _ rfl).1
 have lBg:=Bg_74.out.1
 go_wp2_with fail
 refine (HHe.out ang aeg amg cng ceg cmg _ Mg_0.out.slice).mono ?_
 rintro e w11 ⟨rfl,hb⟩
 clear cBg0 cBg1 cBg2 cBg3 cBg4 cBg5 cBg6 cBg7 lBg
 have A0_75:=hxbx A0_68 hb
 have A2_76:=hxbx A2_69 hb
 have E_77:=hxE E_70 hb
 have Bp_78:=hxbx Bp_71 hb
 have Rp_79:=hxat Rp_72 hb
 have XB0_80:=hxbx XB0_73 hb
 have Bg_81:=hxbx Bg_74 hb
 have Mg_82:=hxat Mg_0 hb
 clear A0_68 A2_69 E_70 Bp_71 Rp_72 XB0_73 Bg_74 Mg_0 hb
 have hkn:(K != K)=false:=by simp
 go_wp2
 have HS:Hid (∀ W',Ext w11 W'→(fun W' : World=>W'.cell? ⟨w.heap.size,0,none⟩=some (.slice an s.nodes.length cn)∧W'.cell? ⟨w.heap.size,1,none⟩=some (.slice ae s.ses.length ce)∧W'.cell? ⟨w.heap.size,2,none⟩=some (.int .i64 s.now)∧W'.cell? ⟨w.heap.size,3,none⟩=some (.slice am s.marks.length cm)∧W'.cell? ⟨(w.heap.size+1),0,none⟩=some (.int .i64 z.kind)∧W'.cell? ⟨(w.heap.size+1),1,none⟩=some (.string z.path)∧W'.cell? ⟨(w.heap.size+1),2,none⟩=some (.int .i64 z.data)∧W'.cell? ⟨(w.heap.size+1),3,none⟩=some (.int .i64 z.version)∧W'.cell? ⟨(w.heap.size+1),4,none⟩=some (.bool z.seq)∧W'.cell? ⟨(w.heap.size+1),5,none⟩=some (.bool z.own)) W'):=fun W' he=>⟨((A0_75.out.ext he).2 0 _ rfl).1,((A0_75.out.ext he).2 1 _ rfl).1,((A0_75.out.ext he).2 2 _ rfl).1,((A0_75.out.ext he).2 3 _ rfl).1,((A2_76.out.ext he).2 0 _ rfl).1,((A2_76.out.ext he).2 1 _ rfl).1,((A2_76.out.ext he).2 2 _ rfl).1,((A2_76.out.ext he).2 3 _ rfl).1,((A2_76.out.ext he).2 4 _ rfl).1,((A2_76.out.ext he).2 5 _ rfl).1⟩
 refine wp_region_held_drew (S:=(fun W' : World=>W'.cell? ⟨w.heap.size,0,none⟩=some (.slice an s.nodes.length cn)∧W'.cell? ⟨w.heap.size,1,none⟩=some (.slice ae s.ses.length ce)∧W'.cell? ⟨w.heap.size,2,none⟩=some (.int .i64 s.now)∧W'.cell? ⟨w.heap.size,3,none⟩=some (.slice am s.marks.length cm)∧W'.cell? ⟨(w.heap.size+1),0,none⟩=some (.int .i64 z.kind)∧W'.cell? ⟨(w.heap.size+1),1,none⟩=some (.string z.path)∧W'.cell? ⟨(w.heap.size+1),2,none⟩=some (.int .i64 z.data)∧W'.cell? ⟨(w.heap.size+1),3,none⟩=some (.int .i64 z.version)∧W'.cell? ⟨(w.heap.size+1),4,none⟩=some (.bool z.seq)∧W'.cell? ⟨(w.heap.size+1),5,none⟩=some (.bool z.own))) (by kernel_rfl) (HS.out _ ((Ext.refl _).drew)) (fun hHeld=>?_)
 have FZh:Hid (Ext w11 w11.drew):=(Ext.refl _).drew
 generalize w11.drew=yh0 at *
 refine tk 0 ⟨some 69,.load 26 (.tmp 3),26,oz10,#[],none⟩ ?_
 refine tk 2 ⟨some 71,.move (.tmp 1),2,oz10,#[],none⟩ ?_
 refine tk 3 ⟨some 72,.load 28 (.tmp 5),28,oz10,#[],none⟩ ?_
 refine wpAnyH_ready (rs:=[1,6]) (by kernel_rfl) (by simp) (AllReadyH.cons rfl (fun K hK=>?_) (AllReadyH.cons rfl (fun K hK=>?_) AllReadyH.nil))
 ·go_simp
  refine (HT0.out _ (E_77.out.trans FZh.out)).mono ?_
  rintro e yh1 ⟨anh0,cnh0,aeh0,ceh0,amh0,cmh0,rfl,hT,hb⟩
  obtain⟨zh1,hzh1⟩:∃ z,z=yh0.heap.size:=⟨_,rfl⟩
  obtain⟨th1,hth1⟩:∃ z,z=yh1.heap.size:=⟨_,rfl⟩
  rw [← hzh1,← hth1] at hT
  have T0h1:Hid (SAt zh1 th1 yh1 (.slice anh0 s.nodes.length cnh0) (.slice aeh0 s.ses.length ceh0) (.slice amh0 s.marks.length cmh0) s):=hT
  have Fh1:Hid (Ext w11 yh1):=FZh.out.trans hb
  clear hb hT hzh1 hth1
  refine hK.out _ _ (HS.out _ Fh1.out) (fun hHeldh1=>?_)
  clear hK K
  refine wpAnyH_ready (rs:=[4,6]) (by kernel_rfl) (by simp) (AllReadyH.cons rfl (fun K hK=>?_) (AllReadyH.cons rfl (fun K hK=>?_) AllReadyH.nil))
  ·go_simp
   refine (HT2.out _ (E_77.out.trans Fh1.out)).mono ?_
   rintro e yh3 ⟨rfl,hb⟩
   have Fh3:Hid (Ext w11 yh3):=Fh1.out.trans hb
   have T0h3:=hxat T0h1 hb
   clear hb
   refine hK.out _ _ (HS.out _ Fh3.out) (fun hHeldh3=>?_)
   clear hK K
   refine wpAnyH_ready (rs:=[5,6]) (by kernel_rfl) (by simp) (AllReadyH.cons rfl (fun K hK=>?_) (AllReadyH.cons rfl (fun K hK=>?_) AllReadyH.nil))
   ·go_simp
    refine (HIm.out anh0 cnh0 aeh0 ceh0 amh0 cmh0 _ (E_77.out.trans Fh3.out) T0h3.out.slice).mono ?_
    rintro e yh5 ⟨anh,aeh,amh,cnh,ceh,cmh,rfl,hR,hb⟩
    obtain⟨zh5,hzh5⟩:∃ z,z=yh3.heap.size:=⟨_,rfl⟩
    obtain⟨th5,hth5⟩:∃ z,z=yh5.heap.size:=⟨_,rfl⟩
    have RSh5:Hid (w11.heap.size≤zh5∧zh5≤th5∧th5≤yh5.heap.size):=⟨by rw [hzh5];exact Fh3.out.size,by rw [hzh5,hth5];exact hb.size,by rw [hth5];exact Nat.le_refl _⟩
    rw [← hzh5,← hth5] at hR
    have Rh5:Hid (SAt zh5 th5 yh5 (.slice anh t.nodes.length cnh) (.slice aeh t.ses.length ceh) (.slice amh t.marks.length cmh) t):=hR
    have Fh5:Hid (Ext w11 yh5):=Fh3.out.trans hb
    have T0h5:=hxat T0h3 hb
    clear hb hR hzh5 hth5
    refine hK.out _ _ (HS.out _ Fh5.out) (fun hHeldh5=>?_)
    clear hK K
    refine wpAnyH_ready (rs:=[6]) (by kernel_rfl) (by simp) (AllReadyH.cons rfl (fun K hK=>?_) AllReadyH.nil)
    go_simp
    obtain⟨bh7,hbh7⟩:∃ b,b=yh5.heap.size:=⟨_,rfl⟩
    have Fh7:Hid (Ext w11 (yh5.alloc (.cells #[.int .i64 0,.int .i64 0,.int .i64 0,.string ⟨#[]⟩,.slice none 0 0,.slice none 0 0,.int .i64 0,.slice none 0 0] 39))):=Fh5.out.alloc _
    have Rh7:=hxat Rh5 ((Ext.refl yh5).alloc (.cells #[.int .i64 0,.int .i64 0,.int .i64 0,.string ⟨#[]⟩,.slice none 0 0,.slice none 0 0,.int .i64 0,.slice none 0 0] 39))
    have Bh7:Hid (BX (yh5.alloc (.cells #[.int .i64 0,.int .i64 0,.int .i64 0,.string ⟨#[]⟩,.slice none 0 0,.slice none 0 0,.int .i64 0,.slice none 0 0] 39)) bh7 [.int .i64 0,.int .i64 0,.int .i64 0,.string ⟨#[]⟩,.slice none 0 0,.slice none 0 0,.int .i64 0,.slice none 0 0]):=by rw [hbh7];exact BX.new yh5 [.int .i64 0,.int .i64 0,.int .i64 0,.string ⟨#[]⟩,.slice none 0 0,.slice none 0 0,.int .i64 0,.slice none 0 0] 39
    have Lh7:Hid (w11.heap.size≤bh7∧(yh5.alloc (.cells #[.int .i64 0,.int .i64 0,.int .i64 0,.string ⟨#[]⟩,.slice none 0 0,.slice none 0 0,.int .i64 0,.slice none 0 0] 39)).heap.size=bh7+1):=⟨by rw [hbh7];exact Fh5.out.size,by rw [hbh7];exact World.size_alloc _ _⟩
    have Dh7:Hid (bh7 < zh5∨th5≤bh7):=Or.inr (by have:=RSh5.out;omega)
    have RSh7:Hid (w11.heap.size≤zh5∧zh5≤th5∧th5≤(yh5.alloc (.cells #[.int .i64 0,.int .i64 0,.int .i64 0,.string ⟨#[]⟩,.slice none 0 0,.slice none 0 0,.int .i64 0,.slice none 0 0] 39)).heap.size):=(by have h1:=RSh5.out;have h2:=Lh7.out;have h3:=hbh7;show _∧_∧_;omega)
    rw [← hbh7]
    clear hbh7
    refine hK.out _ _ (HS.out _ Fh7.out) (fun hHeldh7=>?_)
    clear hK K
    generalize (yh5.alloc (.cells #[.int .i64 0,.int .i64 0,.int .i64 0,.string ⟨#[]⟩,.slice none 0 0,.slice none 0 0,.int .i64 0,.slice none 0 0] 39))=yh7 at *
    refine wpAnyH_ready (rs:=[7]) (by kernel_rfl) (by simp) (AllReadyH.cons rfl (fun K hK=>?_) AllReadyH.nil)
    obtain⟨v0,m0⟩:=Bh7.out.2 0 _ rfl
    obtain⟨v1,m1⟩:=Bh7.out.2 1 _ rfl
    obtain⟨v2,m2⟩:=Bh7.out.2 2 _ rfl
    obtain⟨v3,m3⟩:=Bh7.out.2 3 _ rfl
    obtain⟨v4,m4⟩:=Bh7.out.2 4 _ rfl
    obtain⟨v5,m5⟩:=Bh7.out.2 5 _ rfl
    obtain⟨v6,m6⟩:=Bh7.out.2 6 _ rfl
    obtain⟨v7,m7⟩:=Bh7.out.2 7 _ rfl
    go_simp
    have hX:=BX.sets (l':=[.int .i64 rc,.int .i64 rd,.int .i64 rx,.string rp,.slice anh t.nodes.length cnh,.slice aeh t.ses.length ceh,.int .i64 t.now,.slice amh t.marks.length cmh]) Bh7.out rfl
    have hU:=UpdS.sets yh7 bh7 0 [.int .i64 rc,.int .i64 rd,.int .i64 rx,.string rp,.slice anh t.nodes.length cnh,.slice aeh t.ses.length ceh,.int .i64 t.now,.slice amh t.marks.length cmh]
    have hE:=Ext.sets Fh7.out Lh7.out.1 0 [.int .i64 rc,.int .i64 rd,.int .i64 rx,.string rp,.slice anh t.nodes.length cnh,.slice aeh t.ses.length ceh,.int .i64 t.now,.slice amh t.marks.length cmh]
    simp only [sets,Nat.reduceAdd] at hX hU hE
    have Gh8:=got_mk hE hU Lh7.out.1 Dh7.out RSh7.out Bh7.out.1 hX (Rh7.out.upd hU (by have h3:=Dh7.out;omega))
    clear hX hU hE
    refine hK.out _ _ (HS.out _ Gh8.out.1) (fun hHeldh8=>?_)
    clear hK K
    refine wpAnyH_done (by kernel_rfl) ?_ _
    have hFX:=Gh8.out
    generalize ((((((((yh7.setCell ⟨bh7,0,none⟩ (.int .i64 rc)).setCell ⟨bh7,1,none⟩ (.int .i64 rd)).setCell ⟨bh7,2,none⟩ (.int .i64 rx)).setCell ⟨bh7,3,none⟩ (.string rp)).setCell ⟨bh7,4,none⟩ (.slice anh t.nodes.length cnh)).setCell ⟨bh7,5,none⟩ (.slice aeh t.ses.length ceh)).setCell ⟨bh7,6,none⟩ (.int .i64 t.now)).setCell ⟨bh7,7,none⟩ (.slice amh t.marks.length cmh))=W at hFX ⊢
    refine n42z ?_
    intro hb A0_83 A2_84 E_85 Bp_86 Rp_87 XB0_88 Bg_89 Mg_90
    clear A0_75 A2_76 E_77 Bp_78 Rp_79 XB0_80 Bg_81 Mg_82
    have Bh_91:Hid (BX W bh7 [.int .i64 rc,.int .i64 rd,.int .i64 rx,.string rp,.slice anh t.nodes.length cnh,.slice aeh t.ses.length ceh,.int .i64 t.now,.slice amh t.marks.length cmh]):=hFX.2.2.1
    have Rh_92:Hid (SAt zh5 th5 W (.slice anh t.nodes.length cnh) (.slice aeh t.ses.length ceh) (.slice amh t.marks.length cmh) t):=hFX.2.2.2
    exact m4z
   ·go_simp
    obtain⟨bh6,hbh6⟩:∃ b,b=yh3.heap.size:=⟨_,rfl⟩
    have Fh6:Hid (Ext w11 (yh3.alloc (.cells #[.int .i64 0,.int .i64 0,.int .i64 0,.string ⟨#[]⟩,.slice none 0 0,.slice none 0 0,.int .i64 0,.slice none 0 0] 39))):=Fh3.out.alloc _
    have T0h6:=hxat T0h3 ((Ext.refl yh3).alloc (.cells #[.int .i64 0,.int .i64 0,.int .i64 0,.string ⟨#[]⟩,.slice none 0 0,.slice none 0 0,.int .i64 0,.slice none 0 0] 39))
    have Bh6:Hid (BX (yh3.alloc (.cells #[.int .i64 0,.int .i64 0,.int .i64 0,.string ⟨#[]⟩,.slice none 0 0,.slice none 0 0,.int .i64 0,.slice none 0 0] 39)) bh6 [.int .i64 0,.int .i64 0,.int .i64 0,.string ⟨#[]⟩,.slice none 0 0,.slice none 0 0,.int .i64 0,.slice none 0 0]):=by rw [hbh6];exact BX.new yh3 [.int .i64 0,.int .i64 0,.int .i64 0,.string ⟨#[]⟩,.slice none 0 0,.slice none 0 0,.int .i64 0,.slice none 0 0] 39
    have Lh6:Hid (w11.heap.size≤bh6∧(yh3.alloc (.cells #[.int .i64 0,.int .i64 0,.int .i64 0,.string ⟨#[]⟩,.slice none 0 0,.slice none 0 0,.int .i64 0,.slice none 0 0] 39)).heap.size=bh6+1):=⟨by rw [hbh6];exact Fh3.out.size,by rw [hbh6];exact World.size_alloc _ _⟩
    rw [← hbh6]
    clear hbh6
    refine hK.out _ _ (HS.out _ Fh6.out) (fun hHeldh6=>?_)
    clear hK K
    generalize (yh3.alloc (.cells #[.int .i64 0,.int .i64 0,.int .i64 0,.string ⟨#[]⟩,.slice none 0 0,.slice none 0 0,.int .i64 0,.slice none 0 0] 39))=yh6 at *
    refine wpAnyH_ready (rs:=[5]) (by kernel_rfl) (by simp) (AllReadyH.cons rfl (fun K hK=>?_) AllReadyH.nil)
    go_simp
    refine (HIm.out anh0 cnh0 aeh0 ceh0 amh0 cmh0 _ (E_77.out.trans Fh6.out) T0h6.out.slice).mono ?_
    rintro e yh9 ⟨anh,aeh,amh,cnh,ceh,cmh,rfl,hR,hb⟩
    obtain⟨zh9,hzh9⟩:∃ z,z=yh6.heap.size:=⟨_,rfl⟩
    obtain⟨th9,hth9⟩:∃ z,z=yh9.heap.size:=⟨_,rfl⟩
    have RSh9:Hid (w11.heap.size≤zh9∧zh9≤th9∧th9≤yh9.heap.size):=⟨by rw [hzh9];exact Fh6.out.size,by rw [hzh9,hth9];exact hb.size,by rw [hth9];exact Nat.le_refl _⟩
    have Dh9:Hid (bh6 < zh9∨th9≤bh6):=Or.inl (by rw [hzh9];exact Bh6.out.1)
    rw [← hzh9,← hth9] at hR
    have Rh9:Hid (SAt zh9 th9 yh9 (.slice anh t.nodes.length cnh) (.slice aeh t.ses.length ceh) (.slice amh t.marks.length cmh) t):=hR
    have Fh9:Hid (Ext w11 yh9):=Fh6.out.trans hb
    have T0h9:=hxat T0h6 hb
    have Bh9:=hxbx Bh6 hb
    clear hb hR hzh9 hth9
    refine hK.out _ _ (HS.out _ Fh9.out) (fun hHeldh9=>?_)
    clear hK K
    refine wpAnyH_ready (rs:=[7]) (by kernel_rfl) (by simp) (AllReadyH.cons rfl (fun K hK=>?_) AllReadyH.nil)
    obtain⟨v0,m0⟩:=Bh9.out.2 0 _ rfl
    obtain⟨v1,m1⟩:=Bh9.out.2 1 _ rfl
    obtain⟨v2,m2⟩:=Bh9.out.2 2 _ rfl
    obtain⟨v3,m3⟩:=Bh9.out.2 3 _ rfl
    obtain⟨v4,m4⟩:=Bh9.out.2 4 _ rfl
    obtain⟨v5,m5⟩:=Bh9.out.2 5 _ rfl
    obtain⟨v6,m6⟩:=Bh9.out.2 6 _ rfl
    obtain⟨v7,m7⟩:=Bh9.out.2 7 _ rfl
    go_simp
    have hX:=BX.sets (l':=[.int .i64 rc,.int .i64 rd,.int .i64 rx,.string rp,.slice anh t.nodes.length cnh,.slice aeh t.ses.length ceh,.int .i64 t.now,.slice amh t.marks.length cmh]) Bh9.out rfl
    have hU:=UpdS.sets yh9 bh6 0 [.int .i64 rc,.int .i64 rd,.int .i64 rx,.string rp,.slice anh t.nodes.length cnh,.slice aeh t.ses.length ceh,.int .i64 t.now,.slice amh t.marks.length cmh]
    have hE:=Ext.sets Fh9.out Lh6.out.1 0 [.int .i64 rc,.int .i64 rd,.int .i64 rx,.string rp,.slice anh t.nodes.length cnh,.slice aeh t.ses.length ceh,.int .i64 t.now,.slice amh t.marks.length cmh]
    simp only [sets,Nat.reduceAdd] at hX hU hE
    have Gh10:=got_mk hE hU Lh6.out.1 Dh9.out RSh9.out Bh9.out.1 hX (Rh9.out.upd hU (by have h3:=Dh9.out;omega))
    clear hX hU hE
    refine hK.out _ _ (HS.out _ Gh10.out.1) (fun hHeldh10=>?_)
    clear hK K
    refine wpAnyH_done (by kernel_rfl) ?_ _
    have hFX:=Gh10.out
    generalize ((((((((yh9.setCell ⟨bh6,0,none⟩ (.int .i64 rc)).setCell ⟨bh6,1,none⟩ (.int .i64 rd)).setCell ⟨bh6,2,none⟩ (.int .i64 rx)).setCell ⟨bh6,3,none⟩ (.string rp)).setCell ⟨bh6,4,none⟩ (.slice anh t.nodes.length cnh)).setCell ⟨bh6,5,none⟩ (.slice aeh t.ses.length ceh)).setCell ⟨bh6,6,none⟩ (.int .i64 t.now)).setCell ⟨bh6,7,none⟩ (.slice amh t.marks.length cmh))=W at hFX ⊢
    refine n42z ?_
    intro hb A0_83 A2_84 E_85 Bp_86 Rp_87 XB0_88 Bg_89 Mg_90
    clear A0_75 A2_76 E_77 Bp_78 Rp_79 XB0_80 Bg_81 Mg_82
    have Bh_91:Hid (BX W bh6 [.int .i64 rc,.int .i64 rd,.int .i64 rx,.string rp,.slice anh t.nodes.length cnh,.slice aeh t.ses.length ceh,.int .i64 t.now,.slice amh t.marks.length cmh]):=hFX.2.2.1
    have Rh_92:Hid (SAt zh9 th9 W (.slice anh t.nodes.length cnh) (.slice aeh t.ses.length ceh) (.slice amh t.marks.length cmh) t):=hFX.2.2.2
    exact m4z
  ·go_simp
   obtain⟨bh4,hbh4⟩:∃ b,b=yh1.heap.size:=⟨_,rfl⟩
   have Fh4:Hid (Ext w11 (yh1.alloc (.cells #[.int .i64 0,.int .i64 0,.int .i64 0,.string ⟨#[]⟩,.slice none 0 0,.slice none 0 0,.int .i64 0,.slice none 0 0] 39))):=Fh1.out.alloc _
   have T0h4:=hxat T0h1 ((Ext.refl yh1).alloc (.cells #[.int .i64 0,.int .i64 0,.int .i64 0,.string ⟨#[]⟩,.slice none 0 0,.slice none 0 0,.int .i64 0,.slice none 0 0] 39))
   have Bh4:Hid (BX (yh1.alloc (.cells #[.int .i64 0,.int .i64 0,.int .i64 0,.string ⟨#[]⟩,.slice none 0 0,.slice none 0 0,.int .i64 0,.slice none 0 0] 39)) bh4 [.int .i64 0,.int .i64 0,.int .i64 0,.string ⟨#[]⟩,.slice none 0 0,.slice none 0 0,.int .i64 0,.slice none 0 0]):=by rw [hbh4];exact BX.new yh1 [.int .i64 0,.int .i64 0,.int .i64 0,.string ⟨#[]⟩,.slice none 0 0,.slice none 0 0,.int .i64 0,.slice none 0 0] 39
   have Lh4:Hid (w11.heap.size≤bh4∧(yh1.alloc (.cells #[.int .i64 0,.int .i64 0,.int .i64 0,.string ⟨#[]⟩,.slice none 0 0,.slice none 0 0,.int .i64 0,.slice none 0 0] 39)).heap.size=bh4+1):=⟨by rw [hbh4];exact Fh1.out.size,by rw [hbh4];exact World.size_alloc _ _⟩
   rw [← hbh4]
   clear hbh4
   refine hK.out _ _ (HS.out _ Fh4.out) (fun hHeldh4=>?_)
   clear hK K
   generalize (yh1.alloc (.cells #[.int .i64 0,.int .i64 0,.int .i64 0,.string ⟨#[]⟩,.slice none 0 0,.slice none 0 0,.int .i64 0,.slice none 0 0] 39))=yh4 at *
   refine wpAnyH_ready (rs:=[4]) (by kernel_rfl) (by simp) (AllReadyH.cons rfl (fun K hK=>?_) AllReadyH.nil)
   go_simp
   refine (HT2.out _ (E_77.out.trans Fh4.out)).mono ?_
   rintro e yh11 ⟨rfl,hb⟩
   have Fh11:Hid (Ext w11 yh11):=Fh4.out.trans hb
   have T0h11:=hxat T0h4 hb
   have Bh11:=hxbx Bh4 hb
   clear hb
   refine hK.out _ _ (HS.out _ Fh11.out) (fun hHeldh11=>?_)
   clear hK K
   refine wpAnyH_ready (rs:=[5]) (by kernel_rfl) (by simp) (AllReadyH.cons rfl (fun K hK=>?_) AllReadyH.nil)
   go_simp
   refine (HIm.out anh0 cnh0 aeh0 ceh0 amh0 cmh0 _ (E_77.out.trans Fh11.out) T0h11.out.slice).mono ?_
   rintro e yh12 ⟨anh,aeh,amh,cnh,ceh,cmh,rfl,hR,hb⟩
   obtain⟨zh12,hzh12⟩:∃ z,z=yh11.heap.size:=⟨_,rfl⟩
   obtain⟨th12,hth12⟩:∃ z,z=yh12.heap.size:=⟨_,rfl⟩
   have RSh12:Hid (w11.heap.size≤zh12∧zh12≤th12∧th12≤yh12.heap.size):=⟨by rw [hzh12];exact Fh11.out.size,by rw [hzh12,hth12];exact hb.size,by rw [hth12];exact Nat.le_refl _⟩
   have Dh12:Hid (bh4 < zh12∨th12≤bh4):=Or.inl (by rw [hzh12];exact Bh11.out.1)
   rw [← hzh12,← hth12] at hR
   have Rh12:Hid (SAt zh12 th12 yh12 (.slice anh t.nodes.length cnh) (.slice aeh t.ses.length ceh) (.slice amh t.marks.length cmh) t):=hR
   have Fh12:Hid (Ext w11 yh12):=Fh11.out.trans hb
   have T0h12:=hxat T0h11 hb
   have Bh12:=hxbx Bh11 hb
   clear hb hR hzh12 hth12
   refine hK.out _ _ (HS.out _ Fh12.out) (fun hHeldh12=>?_)
   clear hK K
   refine wpAnyH_ready (rs:=[7]) (by kernel_rfl) (by simp) (AllReadyH.cons rfl (fun K hK=>?_) AllReadyH.nil)
   obtain⟨v0,m0⟩:=Bh12.out.2 0 _ rfl
   obtain⟨v1,m1⟩:=Bh12.out.2 1 _ rfl
   obtain⟨v2,m2⟩:=Bh12.out.2 2 _ rfl
   obtain⟨v3,m3⟩:=Bh12.out.2 3 _ rfl
   obtain⟨v4,m4⟩:=Bh12.out.2 4 _ rfl
   obtain⟨v5,m5⟩:=Bh12.out.2 5 _ rfl
   obtain⟨v6,m6⟩:=Bh12.out.2 6 _ rfl
   obtain⟨v7,m7⟩:=Bh12.out.2 7 _ rfl
   go_simp
   have hX:=BX.sets (l':=[.int .i64 rc,.int .i64 rd,.int .i64 rx,.string rp,.slice anh t.nodes.length cnh,.slice aeh t.ses.length ceh,.int .i64 t.now,.slice amh t.marks.length cmh]) Bh12.out rfl
   have hU:=UpdS.sets yh12 bh4 0 [.int .i64 rc,.int .i64 rd,.int .i64 rx,.string rp,.slice anh t.nodes.length cnh,.slice aeh t.ses.length ceh,.int .i64 t.now,.slice amh t.marks.length cmh]
   have hE:=Ext.sets Fh12.out Lh4.out.1 0 [.int .i64 rc,.int .i64 rd,.int .i64 rx,.string rp,.slice anh t.nodes.length cnh,.slice aeh t.ses.length ceh,.int .i64 t.now,.slice amh t.marks.length cmh]
   simp only [sets,Nat.reduceAdd] at hX hU hE
   have Gh13:=got_mk hE hU Lh4.out.1 Dh12.out RSh12.out Bh12.out.1 hX (Rh12.out.upd hU (by have h3:=Dh12.out;omega))
   clear hX hU hE
   refine hK.out _ _ (HS.out _ Gh13.out.1) (fun hHeldh13=>?_)
   clear hK K
   refine wpAnyH_done (by kernel_rfl) ?_ _
   have hFX:=Gh13.out
   generalize ((((((((yh12.setCell ⟨bh4,0,none⟩ (.int .i64 rc)).setCell ⟨bh4,1,none⟩ (.int .i64 rd)).setCell ⟨bh4,2,none⟩ (.int .i64 rx)).setCell ⟨bh4,3,none⟩ (.string rp)).setCell ⟨bh4,4,none⟩ (.slice anh t.nodes.length cnh)).setCell ⟨bh4,5,none⟩ (.slice aeh t.ses.length ceh)).setCell ⟨bh4,6,none⟩ (.int .i64 t.now)).setCell ⟨bh4,7,none⟩ (.slice amh t.marks.length cmh))=W at hFX ⊢
   refine n42z ?_
   intro hb A0_83 A2_84 E_85 Bp_86 Rp_87 XB0_88 Bg_89 Mg_90
   clear A0_75 A2_76 E_77 Bp_78 Rp_79 XB0_80 Bg_81 Mg_82
   have Bh_91:Hid (BX W bh4 [.int .i64 rc,.int .i64 rd,.int .i64 rx,.string rp,.slice anh t.nodes.length cnh,.slice aeh t.ses.length ceh,.int .i64 t.now,.slice amh t.marks.length cmh]):=hFX.2.2.1
   have Rh_92:Hid (SAt zh12 th12 W (.slice anh t.nodes.length cnh) (.slice aeh t.ses.length ceh) (.slice amh t.marks.length cmh) t):=hFX.2.2.2
   exact m4z
 ·go_simp
  obtain⟨bh2,hbh2⟩:∃ b,b=yh0.heap.size:=⟨_,rfl⟩
  have Fh2:Hid (Ext w11 (yh0.alloc (.cells #[.int .i64 0,.int .i64 0,.int .i64 0,.string ⟨#[]⟩,.slice none 0 0,.slice none 0 0,.int .i64 0,.slice none 0 0] 39))):=FZh.out.alloc _
  have Bh2:Hid (BX (yh0.alloc (.cells #[.int .i64 0,.int .i64 0,.int .i64 0,.string ⟨#[]⟩,.slice none 0 0,.slice none 0 0,.int .i64 0,.slice none 0 0] 39)) bh2 [.int .i64 0,.int .i64 0,.int .i64 0,.string ⟨#[]⟩,.slice none 0 0,.slice none 0 0,.int .i64 0,.slice none 0 0]):=by rw [hbh2];exact BX.new yh0 [.int .i64 0,.int .i64 0,.int .i64 0,.string ⟨#[]⟩,.slice none 0 0,.slice none 0 0,.int .i64 0,.slice none 0 0] 39
  have Lh2:Hid (w11.heap.size≤bh2∧(yh0.alloc (.cells #[.int .i64 0,.int .i64 0,.int .i64 0,.string ⟨#[]⟩,.slice none 0 0,.slice none 0 0,.int .i64 0,.slice none 0 0] 39)).heap.size=bh2+1):=⟨by rw [hbh2];exact FZh.out.size,by rw [hbh2];exact World.size_alloc _ _⟩
  rw [← hbh2]
  clear hbh2
  refine hK.out _ _ (HS.out _ Fh2.out) (fun hHeldh2=>?_)
  clear hK K
  generalize (yh0.alloc (.cells #[.int .i64 0,.int .i64 0,.int .i64 0,.string ⟨#[]⟩,.slice none 0 0,.slice none 0 0,.int .i64 0,.slice none 0 0] 39))=yh2 at *
  refine wpAnyH_ready (rs:=[1]) (by kernel_rfl) (by simp) (AllReadyH.cons rfl (fun K hK=>?_) AllReadyH.nil)
  go_simp
  refine (HT0.out _ (E_77.out.trans Fh2.out)).mono ?_
  rintro e yh14 ⟨anh0,cnh0,aeh0,ceh0,amh0,cmh0,rfl,hT,hb⟩
  obtain⟨zh14,hzh14⟩:∃ z,z=yh2.heap.size:=⟨_,rfl⟩
  obtain⟨th14,hth14⟩:∃ z,z=yh14.heap.size:=⟨_,rfl⟩
  rw [← hzh14,← hth14] at hT
  have T0h14:Hid (SAt zh14 th14 yh14 (.slice anh0 s.nodes.length cnh0) (.slice aeh0 s.ses.length ceh0) (.slice amh0 s.marks.length cmh0) s):=hT
  have Fh14:Hid (Ext w11 yh14):=Fh2.out.trans hb
  have Bh14:=hxbx Bh2 hb
  clear hb hT hzh14 hth14
  refine hK.out _ _ (HS.out _ Fh14.out) (fun hHeldh14=>?_)
  clear hK K
  refine wpAnyH_ready (rs:=[4]) (by kernel_rfl) (by simp) (AllReadyH.cons rfl (fun K hK=>?_) AllReadyH.nil)
  go_simp
  refine (HT2.out _ (E_77.out.trans Fh14.out)).mono ?_
  rintro e yh15 ⟨rfl,hb⟩
  have Fh15:Hid (Ext w11 yh15):=Fh14.out.trans hb
  have T0h15:=hxat T0h14 hb
  have Bh15:=hxbx Bh14 hb
  clear hb
  refine hK.out _ _ (HS.out _ Fh15.out) (fun hHeldh15=>?_)
  clear hK K
  refine wpAnyH_ready (rs:=[5]) (by kernel_rfl) (by simp) (AllReadyH.cons rfl (fun K hK=>?_) AllReadyH.nil)
  go_simp
  refine (HIm.out anh0 cnh0 aeh0 ceh0 amh0 cmh0 _ (E_77.out.trans Fh15.out) T0h15.out.slice).mono ?_
  rintro e yh16 ⟨anh,aeh,amh,cnh,ceh,cmh,rfl,hR,hb⟩
  obtain⟨zh16,hzh16⟩:∃ z,z=yh15.heap.size:=⟨_,rfl⟩
  obtain⟨th16,hth16⟩:∃ z,z=yh16.heap.size:=⟨_,rfl⟩
  have RSh16:Hid (w11.heap.size≤zh16∧zh16≤th16∧th16≤yh16.heap.size):=⟨by rw [hzh16];exact Fh15.out.size,by rw [hzh16,hth16];exact hb.size,by rw [hth16];exact Nat.le_refl _⟩
  have Dh16:Hid (bh2 < zh16∨th16≤bh2):=Or.inl (by rw [hzh16];exact Bh15.out.1)
  rw [← hzh16,← hth16] at hR
  have Rh16:Hid (SAt zh16 th16 yh16 (.slice anh t.nodes.length cnh) (.slice aeh t.ses.length ceh) (.slice amh t.marks.length cmh) t):=hR
  have Fh16:Hid (Ext w11 yh16):=Fh15.out.trans hb
  have T0h16:=hxat T0h15 hb
  have Bh16:=hxbx Bh15 hb
  clear hb hR hzh16 hth16
  refine hK.out _ _ (HS.out _ Fh16.out) (fun hHeldh16=>?_)
  clear hK K
  refine wpAnyH_ready (rs:=[7]) (by kernel_rfl) (by simp) (AllReadyH.cons rfl (fun K hK=>?_) AllReadyH.nil)
  obtain⟨v0,m0⟩:=Bh16.out.2 0 _ rfl
  obtain⟨v1,m1⟩:=Bh16.out.2 1 _ rfl
  obtain⟨v2,m2⟩:=Bh16.out.2 2 _ rfl
  obtain⟨v3,m3⟩:=Bh16.out.2 3 _ rfl
  obtain⟨v4,m4⟩:=Bh16.out.2 4 _ rfl
  obtain⟨v5,m5⟩:=Bh16.out.2 5 _ rfl
  obtain⟨v6,m6⟩:=Bh16.out.2 6 _ rfl
  obtain⟨v7,m7⟩:=Bh16.out.2 7 _ rfl
  go_simp
  have hX:=BX.sets (l':=[.int .i64 rc,.int .i64 rd,.int .i64 rx,.string rp,.slice anh t.nodes.length cnh,.slice aeh t.ses.length ceh,.int .i64 t.now,.slice amh t.marks.length cmh]) Bh16.out rfl
  have hU:=UpdS.sets yh16 bh2 0 [.int .i64 rc,.int .i64 rd,.int .i64 rx,.string rp,.slice anh t.nodes.length cnh,.slice aeh t.ses.length ceh,.int .i64 t.now,.slice amh t.marks.length cmh]
  have hE:=Ext.sets Fh16.out Lh2.out.1 0 [.int .i64 rc,.int .i64 rd,.int .i64 rx,.string rp,.slice anh t.nodes.length cnh,.slice aeh t.ses.length ceh,.int .i64 t.now,.slice amh t.marks.length cmh]
  simp only [sets,Nat.reduceAdd] at hX hU hE
  have Gh17:=got_mk hE hU Lh2.out.1 Dh16.out RSh16.out Bh16.out.1 hX (Rh16.out.upd hU (by have h3:=Dh16.out;omega))
  clear hX hU hE
  refine hK.out _ _ (HS.out _ Gh17.out.1) (fun hHeldh17=>?_)
  clear hK K
  refine wpAnyH_done (by kernel_rfl) ?_ _
  have hFX:=Gh17.out
  generalize ((((((((yh16.setCell ⟨bh2,0,none⟩ (.int .i64 rc)).setCell ⟨bh2,1,none⟩ (.int .i64 rd)).setCell ⟨bh2,2,none⟩ (.int .i64 rx)).setCell ⟨bh2,3,none⟩ (.string rp)).setCell ⟨bh2,4,none⟩ (.slice anh t.nodes.length cnh)).setCell ⟨bh2,5,none⟩ (.slice aeh t.ses.length ceh)).setCell ⟨bh2,6,none⟩ (.int .i64 t.now)).setCell ⟨bh2,7,none⟩ (.slice amh t.marks.length cmh))=W at hFX ⊢
  refine n42z ?_
  intro hb A0_83 A2_84 E_85 Bp_86 Rp_87 XB0_88 Bg_89 Mg_90
  clear A0_75 A2_76 E_77 Bp_78 Rp_79 XB0_80 Bg_81 Mg_82
  have Bh_91:Hid (BX W bh2 [.int .i64 rc,.int .i64 rd,.int .i64 rx,.string rp,.slice anh t.nodes.length cnh,.slice aeh t.ses.length ceh,.int .i64 t.now,.slice amh t.marks.length cmh]):=hFX.2.2.1
  have Rh_92:Hid (SAt zh16 th16 W (.slice anh t.nodes.length cnh) (.slice aeh t.ses.length ceh) (.slice amh t.marks.length cmh) t):=hFX.2.2.2
  exact m4z
end Go.Proofs.YtpdejinkmnhioaaGreatDoor
