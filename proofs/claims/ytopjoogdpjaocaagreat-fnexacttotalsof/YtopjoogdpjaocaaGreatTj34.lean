/-
  A taker trades as far as it goes, by the model: proved by walking the function.
-/
import Derived.Test.YtopjoogdpjaocaaGreatTj33
set_option linter.unusedVariables false
set_option maxHeartbeats 6400000
set_option maxRecDepth 100000
namespace Go.Proofs.YtopjoogdpjaocaaGreat
open Go.RowKit
theorem zbe {B b:Nat} {v:Value} {l:List Ev} (hb:some b ≠ v.ownBlock):∀ (vs:List Value) (o:Nat) (W:World),ERow W B v l→ERow (W.setCells b o vs) B v l
 | [],_,_,h=>h
 | u :: us,o,W,h=>by rw [World.setCells]; exact zbe hb us (o + 1) _ (zt h hb o u)
def MaI (c:Cm) (next:Int) (w:World) (v:Value) (l:List Od) (tt:Int) (F:List Od × Int × List Ev) (m:Nat) (lv ev kv:Value) (wr:World):Prop :=
 ∃ (l':List Od) (left:Int) (ts:List Ev) (k:Int),kv = .int .i64 k∧((lv = v∧l' = l) ∨ ORow wr (w.heap.size + 1 + 1) lv l')∧ERow wr (w.heap.size + 1 + 1) ev ts∧NexS l' ⟨next,c.s,tt,left,c.l,c.g⟩ k∧MI c next F l' left ts ∧
  wr.rangeAt w.heap.size 0 [.int .i64 next,.int .i64 c.s,.int .i64 tt,.int .i64 left,.int .i64 c.l,.string c.g]∧wr.there w.heap.size 0 6∧wr.there (w.heap.size + 1) 0 6∧Below w.heap.size w wr∧w.heap.size + 1 + 1 ≤ wr.heap.size∧2 * l'.length + (if 0 < left then 1 else 0) ≤ m
theorem ma_end {c:Cm} {next tt:Int} {F:List Od × Int × List Ev} {l':List Od} {left:Int} {ts:List Ev} (htt:tt = tkS c.p) (hs:c.s = 1 ∨ c.s = 2) (hp:prcB c = true) (hm:MI c next F l' left ts) (h:left = 0 ∨ zaA l' (othS c.s) = none ∨ ∃ o,zaA l' (othS c.s) = some o∧zbt c.s tt o = false):F = (l',left,ts):=by
 subst htt
 rcases h with h | h | ⟨o,h,h2⟩
 ·exact mi_done hm (by omega)
 ·exact mi_none hm h
 ·rw [cross_meet hp] at h2; exact mi_stop hm h h2
def MatEnd (w:World) (v:Value) (l:List Od) (w':World) (v' ve:Value) (F:List Od × Int × List Ev):Prop :=
 ((v' = v∧F.1 = l) ∨ ORow w' w.heap.size v' F.1)∧ERow w' w.heap.size ve F.2.2∧Below w.heap.size w w'
theorem eRow_base {W:World} {B B':Nat} {v:Value} {l:List Ev} (h:ERow W B v l) (hB:B' ≤ B):ERow W B' v l :=
 ⟨h.1,by
  rcases h.2 with h | ⟨g',c',cur,h1,h2,h3⟩
  ·exact .inl h
  ·exact .inr ⟨g',c',cur,h1,Nat.le_trans hB h2,h3⟩⟩
set_option maxRecDepth 100000 in
set_option maxHeartbeats 12800000 in
theorem zaH (v:Value) (l:List Od) (c:Cm) (next:Int) (w:World) (hr:RdR Od.vs 6 w v l) (hg:GoodL l) (hs:c.s = 1 ∨ c.s = 2) (hp:prcB c = true) (hq0:0 ≤ c.q) (hq1:c.q ≤ 1000000) :
  Calls Tryz.prog 38 #[v,.agg #[.int .i64 next,.int .i64 c.s,.int .i64 (tkS c.p),.int .i64 c.q,.int .i64 c.l,.string c.g]] w fun e w'=>∃ v' ve,e = .returned (.tuple #[v',.agg #[.int .i64 next,.int .i64 c.s,.int .i64 (tkS c.p),.int .i64 (matL c next 21 l c.q []).2.1,.int .i64 c.l,.string c.g],ve])∧MatEnd w v l w' v' ve (matL c next 21 l c.q []):=by
 obtain ⟨i0,hi0,hz0,hz1,hz2⟩:=info_parts infoEv
 have HMI0:=hide (mi_start (c:=c) (id:=next) hg hq0 hq1)
 have HR:=hide hr
 have HGL:=hide hg
 have HS:=hide hs
 have HP:=hide hp
 generalize htt:tkS c.p = tt
 have HTT:=hide htt.symm
 generalize matL c next 21 l c.q [] = F at HMI0 ⊢
 obtain ⟨a,cap,rfl,hlen,hc⟩:=hr
 obtain ⟨ck,cs,ct,cl,cq,ci,cp,cg⟩:=c
 simp only at hs hq0 hq1 htt HTT HS ⊢
 clear hc hg hp hlen htt
 have hs1:(w.alloc (Obj.cells #[.int .i64 next,.int .i64 cs,.int .i64 tt,.int .i64 cq,.int .i64 cl,.string cg] 78)).heap.size = w.heap.size + 1:=ze _ _
 have hs2:((w.alloc (Obj.cells #[.int .i64 next,.int .i64 cs,.int .i64 tt,.int .i64 cq,.int .i64 cl,.string cg] 78)).alloc (Obj.cells #[.int .i64 0,.int .i64 0,.int .i64 0,.int .i64 0,.int .i64 0,.string ⟨#[]⟩] 78)).heap.size = w.heap.size + 1 + 1:=by rw [ze,hs1]
 have hs3:(((w.alloc (Obj.cells #[.int .i64 next,.int .i64 cs,.int .i64 tt,.int .i64 cq,.int .i64 cl,.string cg] 78)).alloc (Obj.cells #[.int .i64 0,.int .i64 0,.int .i64 0,.int .i64 0,.int .i64 0,.string ⟨#[]⟩] 78)).alloc (Obj.cells #[] 43)).heap.size = w.heap.size + 1 + 1 + 1:=by rw [ze,hs2]
 have r1:=zh w [.int .i64 next,.int .i64 cs,.int .i64 tt,.int .i64 cq,.int .i64 cl,.string cg] 78
 have t1:=zw w [.int .i64 next,.int .i64 cs,.int .i64 tt,.int .i64 cq,.int .i64 cl,.string cg] 78
 have t2:=zw (w.alloc (Obj.cells #[.int .i64 next,.int .i64 cs,.int .i64 tt,.int .i64 cq,.int .i64 cl,.string cg] 78)) [.int .i64 0,.int .i64 0,.int .i64 0,.int .i64 0,.int .i64 0,.string ⟨#[]⟩] 78
 rw [hs1] at t2
 have e3:=World.ownsRow_made (base:=w.heap.size + 1 + 1) (e:=43) (size:=14) ((w.alloc (Obj.cells #[.int .i64 next,.int .i64 cs,.int .i64 tt,.int .i64 cq,.int .i64 cl,.string cg] 78)).alloc (Obj.cells #[.int .i64 0,.int .i64 0,.int .i64 0,.int .i64 0,.int .i64 0,.string ⟨#[]⟩] 78)) #[] 0 (by omega) (by decide) rfl
 rw [hs2] at e3
 have b1:Below w.heap.size w (w.alloc (Obj.cells #[.int .i64 next,.int .i64 cs,.int .i64 tt,.int .i64 cq,.int .i64 cl,.string cg] 78)):=(Below.refl _ _).alloc (Nat.le_refl _) _
 have b2:Below (w.heap.size + 1) (w.alloc (Obj.cells #[.int .i64 next,.int .i64 cs,.int .i64 tt,.int .i64 cq,.int .i64 cl,.string cg] 78)) ((w.alloc (Obj.cells #[.int .i64 next,.int .i64 cs,.int .i64 tt,.int .i64 cq,.int .i64 cl,.string cg] 78)).alloc (Obj.cells #[.int .i64 0,.int .i64 0,.int .i64 0,.int .i64 0,.int .i64 0,.string ⟨#[]⟩] 78)):=(Below.refl _ _).alloc (by omega) _
 have b3:Below (w.heap.size + 1 + 1) ((w.alloc (Obj.cells #[.int .i64 next,.int .i64 cs,.int .i64 tt,.int .i64 cq,.int .i64 cl,.string cg] 78)).alloc (Obj.cells #[.int .i64 0,.int .i64 0,.int .i64 0,.int .i64 0,.int .i64 0,.string ⟨#[]⟩] 78)) (((w.alloc (Obj.cells #[.int .i64 next,.int .i64 cs,.int .i64 tt,.int .i64 cq,.int .i64 cl,.string cg] 78)).alloc (Obj.cells #[.int .i64 0,.int .i64 0,.int .i64 0,.int .i64 0,.int .i64 0,.string ⟨#[]⟩] 78)).alloc (Obj.cells #[] 43)):=(Below.refl _ _).alloc (by omega) _
 have b23:=b2.trans (b3.mono (by omega))
 have HX:Hid (_∧_∧_∧_):=⟨zb r1 b23 (by omega),zf t1 b23 (by omega),zf t2 b3 (by omega),e3⟩
 have HB3:=hide (b1.trans (b23.mono (by omega)))
 have HS3:=hide hs3
 clear hs1 hs2 hs3 r1 t1 t2 b1 b2 b3 b23 e3
 go_enter Tryz.func38,Tryz.ntmps38
 refine wp_seq_k fun K hK=>?_
 have HK1:=hide hK
 clear hK
 go_wp2_with fail
 refine za HK1 _ _ ?_
 clear HK1
 refine wp_seq_k fun K hK=>?_
 have HK1:=hide hK
 clear hK
 go_wp2_with fail
 refine za HK1 _ _ ?_
 clear HK1
 generalize (((w.alloc (Obj.cells #[.int .i64 next,.int .i64 cs,.int .i64 tt,.int .i64 cq,.int .i64 cl,.string cg] 78)).alloc (Obj.cells #[.int .i64 0,.int .i64 0,.int .i64 0,.int .i64 0,.int .i64 0,.string ⟨#[]⟩] 78)).alloc (Obj.cells #[] 43)) = X at HX HB3 HS3 ⊢
 have HX:Hid (X.rangeAt w.heap.size 0 [.int .i64 next,.int .i64 cs,.int .i64 tt,.int .i64 cq,.int .i64 cl,.string cg]∧X.there w.heap.size 0 6∧X.there (w.heap.size + 1) 0 6∧X.ownsRow (w.heap.size + 1 + 1) 43 14 (.slice (some ⟨w.heap.size + 1 + 1,0,none⟩) 0 0) 0 []):=za HX
 have c0:X.cell? ⟨w.heap.size,0,none⟩ = some (.int .i64 next):=(za HX).1 0 _ rfl
 have c1:X.cell? ⟨w.heap.size,1,none⟩ = some (.int .i64 cs):=(za HX).1 1 _ rfl
 have c2:X.cell? ⟨w.heap.size,2,none⟩ = some (.int .i64 tt):=(za HX).1 2 _ rfl
 have c3:X.cell? ⟨w.heap.size,3,none⟩ = some (.int .i64 cq):=(za HX).1 3 _ rfl
 have c4:X.cell? ⟨w.heap.size,4,none⟩ = some (.int .i64 cl):=(za HX).1 4 _ rfl
 have c5:X.cell? ⟨w.heap.size,5,none⟩ = some (.string cg):=(za HX).1 5 _ rfl
 go_wp2_with fail
 refine (l04Next_any _ l ⟨next,cs,tt,cq,cl,cg⟩ X (zl (za HR) (za HB3) (Nat.le_refl _)) (za HGL).rise (by have:=(za HGL).len; omega) (za HS)).mono ?_
 rintro e w2 ⟨k,rfl,hnx,hb2⟩
 have HST:Hid (MaI ⟨ck,cs,ct,cl,cq,ci,cp,cg⟩ next w (.slice a l.length cap) l tt F (2 * l.length + 1) (.slice a l.length cap) (.slice (some ⟨w.heap.size + 1 + 1,0,none⟩) 0 0) (.int .i64 k) w2):=by
  have hs3:=za HS3
  refine ⟨l,cq,[],k,rfl,.inl ⟨rfl,rfl⟩,?_,hnx,za HMI0,zb (za HX).1 hb2 (by omega),zf (za HX).2.1 hb2 (by omega),zf (za HX).2.2.1 hb2 (by omega),(za HB3).trans (hb2.mono (za HB3).size),by have:=hb2.size; omega,by split <;> omega⟩
  exact zI (l:=[]) (za HX).2.2.2 hb2
 clear hnx hb2 c0 c1 c2 c3 c4 c5 HX HB3 HS3 HMI0
 go_wp2_with fail
 go_loopg [0,7,8] (2 * l.length + 1) (fun m lv ev kv wr=>MaI ⟨ck,cs,ct,cl,cq,ci,cp,cg⟩ next w (.slice a l.length cap) l tt F m lv ev kv wr)
 case atStart=>exact za HST
 case round =>
  obtain ⟨l',left,ts,kx,rfl,hlv,her,hnx,hmi,hrt,ht0,ht1,hbw,hsz,hme⟩:=hrel
  have HER:=hide her
  have HMI:=hide hmi
  have HRT:=hide hrt
  have HT0:=hide ht0
  have HT1:=hide ht1
  have HBW:=hide hbw
  have HLV:=hide hlv
  have HRD:Hid (RdR Od.vs 6 wr u0 l'):=by
   rcases hlv with ⟨rfl,rfl⟩ | h
   ·exact zl (za HR) hbw (Nat.le_refl _)
   ·exact zM h (by have:=hmi.good.len; omega)
  have hlen:=hmi.good.len
  have hl0:=hmi.l0
  have hl1:=hmi.l1
  have hfew:=hmi.few
  clear her hrt ht0 ht1 hbw HST hlv
  rcases hnx with ⟨rfl,hend⟩ | ⟨i,o,rfl,hi,hio,hfo,hcr,hlf⟩
  ·have HF:=hide (ma_end (za HTT) (za HS) (za HP) hmi hend)
   clear hend hmi
   go_wp2_with fail
   obtain ⟨V0,hV0⟩:∃ V:World,V = { wr with drawn:=wr.drawn + 1 }:=⟨_,rfl⟩
   have HLV:Hid ((u0 = .slice a l.length cap∧l' = l) ∨ ORow V0 (w.heap.size + 1 + 1) u0 l'):=by rw [hV0]; exact za HLV
   have HER:Hid (ERow V0 (w.heap.size + 1 + 1) u7 ts):=by rw [hV0]; exact za HER
   have HRT:Hid (V0.rangeAt w.heap.size 0 [.int .i64 next,.int .i64 cs,.int .i64 tt,.int .i64 left,.int .i64 cl,.string cg]):=by rw [hV0]; exact za HRT
   have HT1:Hid (V0.there (w.heap.size + 1) 0 6):=by rw [hV0]; exact za HT1
   have HBW:Hid (Below w.heap.size w V0):=by rw [hV0]; exact (za HBW).trans ⟨rfl,rfl,rfl,Nat.le_refl _,fun _ _=>rfl⟩
   obtain ⟨V1,hV1⟩:∃ V:World,V = V0.setCells (w.heap.size + 1) 0 [.int .i64 next,.int .i64 cs,.int .i64 tt,.int .i64 left,.int .i64 cl,.string cg]:=⟨_,rfl⟩
   have HR1:Hid (V1.rangeAt (w.heap.size + 1) 0 [.int .i64 next,.int .i64 cs,.int .i64 tt,.int .i64 left,.int .i64 cl,.string cg]):=by rw [hV1]; exact World.rangeAt_setCells_same V0 _ 0 _ (fun j hj=>za HT1 j hj)
   have HEND:Hid (MatEnd w (.slice a l.length cap) l V1 u0 u7 F):=by
    rw [za HF]
    refine ⟨?_,?_,?_⟩
    ·rcases za HLV with h | h
     ·exact .inl h
     ·exact .inr (by rw [hV1]; exact zaB (zax (by omega) _ _ _ h) (by omega))
    ·rw [hV1]
     refine eRow_base (zbe (fun e=>?_) _ _ _ (za HER)) (show w.heap.size ≤ w.heap.size + 1 + 1 by omega)
     have:=((za HER).lt _ e.symm).1
     omega
    ·rw [hV1]; exact zm _ (by omega) _ _ _ (za HBW)
   have HFL:Hid (F.2.1 = left):=by show _ = _; rw [za HF]
   have HV0:=hide hV0
   have HV1:=hide hV1
   clear hV0 hV1 HLV HER HBW
   refine zo (R8A (fun f=>{ tmps:=#[u0,.agg #[.int .i64 next,.int .i64 cs,.int .i64 tt,.int .i64 cq,.int .i64 cl,.string cg],undef,.pointer (some ⟨w.heap.size,0,none⟩),f 3,.pointer (some ⟨w.heap.size + 1,0,none⟩),f 5,u7,.int .i64 (-1),u9,.slice (some ⟨w.heap.size + 1 + 1,0,none⟩) 0 0,.slice a l.length cap,.agg #[.int .i64 next,.int .i64 cs,.int .i64 tt,.int .i64 cq,.int .i64 cl,.string cg],.int .i64 k,.int .i64 (-1),.bool false,u16,u17,u18,u19,u20,u21,u22,u23,u24,u25,u26,u27,u28,u29,u30,u31,f 0,f 1,f 2],defers:=[] }) u0 (.agg #[.int .i64 next,.int .i64 cs,.int .i64 tt,.int .i64 left,.int .i64 cl,.string cg]) u7 V0 V1 V1) (by kernel_rfl) ?_ ?_ ?_
   ·exact ⟨fun j=>if j = 3 then .slice none 0 0 else if j = 5 then .slice none 0 0 else undef,rfl,⟨by simp,by simp,by simp,by simp,by simp,fun _=>(za HV0).symm,by simp,by simp⟩⟩
   ·rintro x A V' ⟨f,rfl,hR⟩ hx hrd
    have hallx:=zac hrd hx (by kernel_rfl)
    have e3:=hR.f3 (hallx 3 (by simp))
    have e5:=hR.f5 (hallx 5 (by simp))
    have eW:=hR.s2 (hallx 4 (by simp)) (hallx 5 (by simp))
    subst eW
    simp only [e3,e5]
    clear hR hallx e3 e5 hrd hx
    have d0:V'.cell? ⟨w.heap.size + 1,0,none⟩ = some (.int .i64 next):=za HR1 0 _ rfl
    have d1:V'.cell? ⟨w.heap.size + 1,1,none⟩ = some (.int .i64 cs):=za HR1 1 _ rfl
    have d2:V'.cell? ⟨w.heap.size + 1,2,none⟩ = some (.int .i64 tt):=za HR1 2 _ rfl
    have d3:V'.cell? ⟨w.heap.size + 1,3,none⟩ = some (.int .i64 left):=za HR1 3 _ rfl
    have d4:V'.cell? ⟨w.heap.size + 1,4,none⟩ = some (.int .i64 cl):=za HR1 4 _ rfl
    have d5:V'.cell? ⟨w.heap.size + 1,5,none⟩ = some (.string cg):=za HR1 5 _ rfl
    go_wp2_with fail
    try simp (config:={ zetaDelta:=true }) only [Exit.noGoto_ret]
    try simp only [Exit.inBlock,Exit.then]
    refine bodyPost_ret (by simp [results,Tryz.results38,go_sem,d0,d1,d2,d3,d4,d5]; try rfl) rfl ?_
    exact ⟨u0,u7,by rw [za HFL],za HEND⟩
   ·rintro x A V' i' o' ⟨f,rfl,hR⟩ hcl hx ho hxi hall
    have n5:i' < 5→x[5]? = some false:=fun hlt=>by
     rcases zbP hx (show 5 < 6 by omega) with h | h
     ·exact h
     ·have:=hcl 5 _ rfl h ⟨i',.phase⟩ (by rcases (by omega:i' = 0 ∨ i' = 1 ∨ i' = 2 ∨ i' = 3 ∨ i' = 4) with rfl | rfl | rfl | rfl | rfl <;> simp) rfl
      rw [hxi] at this; cases this
    have n4:i' = 0 ∨ i' = 1 ∨ i' = 3→x[4]? = some false:=fun hlt=>by
     rcases zbP hx (show 4 < 6 by omega) with h | h
     ·exact h
     ·have:=hcl 4 _ rfl h ⟨i',.phase⟩ (by rcases hlt with rfl | rfl | rfl <;> simp) rfl
      rw [hxi] at this; cases this
    have HRR:=hide hR
    clear hcl
    match i',ho with
    | 0,ho =>
     obtain rfl:=Option.some.inj ho
     clear hall hR
     rw [if_pos (by rfl)]
     unfold Oper.wp
     go_simp
     exact ⟨upd f 0 u0,by simp [upd],r8_val (za HRR) 0 _ (by omega) (fun _=>rfl) (by omega) (by omega) (by omega)⟩
    | 1,ho =>
     obtain rfl:=Option.some.inj ho
     have eV:=hR.s0 (n4 (by omega))
     subst eV
     have c0:V'.cell? ⟨w.heap.size,0,none⟩ = some (.int .i64 next):=za HRT 0 _ rfl
     have c1:V'.cell? ⟨w.heap.size,1,none⟩ = some (.int .i64 cs):=za HRT 1 _ rfl
     have c2:V'.cell? ⟨w.heap.size,2,none⟩ = some (.int .i64 tt):=za HRT 2 _ rfl
     have c3:V'.cell? ⟨w.heap.size,3,none⟩ = some (.int .i64 left):=za HRT 3 _ rfl
     have c4:V'.cell? ⟨w.heap.size,4,none⟩ = some (.int .i64 cl):=za HRT 4 _ rfl
     have c5:V'.cell? ⟨w.heap.size,5,none⟩ = some (.string cg):=za HRT 5 _ rfl
     clear hall hR
     rw [if_pos (by rfl)]
     unfold Oper.wp
     go_simp
     exact ⟨upd f 1 (.agg #[.int .i64 next,.int .i64 cs,.int .i64 tt,.int .i64 left,.int .i64 cl,.string cg]),by simp [upd],r8_val (za HRR) 1 _ (by omega) (by omega) (fun _=>rfl) (by omega) (by omega)⟩
    | 2,ho =>
     obtain rfl:=Option.some.inj ho
     clear hall hR
     rw [if_pos (by rfl)]
     unfold Oper.wp
     go_simp
     exact ⟨upd f 2 u7,by simp [upd],r8_val (za HRR) 2 _ (by omega) (by omega) (by omega) (fun _=>rfl) (by omega)⟩
    | 3,ho =>
     obtain rfl:=Option.some.inj ho
     have g0:=hR.f0 (hall ⟨0,.data⟩ (by simp) rfl)
     clear hall hR
     rw [if_pos (by rfl)]
     unfold Oper.wp
     go_simp
     exact ⟨upd f 3 u0,by simp [upd,g0],r8_val (za HRR) 3 _ (by omega) (by omega) (by omega) (by omega) (fun _=>rfl)⟩
    | 4,ho =>
     obtain rfl:=Option.some.inj ho
     have g1:=hR.f1 (hall ⟨1,.data⟩ (by simp) rfl)
     have eV:=hR.s0 hxi
     subst eV
     have hth:=za HT1
     obtain ⟨y0,z0,q0⟩:=zc hth (j:=0) (by omega)
     obtain ⟨y1,z1,q1⟩:=zc hth (j:=1) (by omega)
     obtain ⟨y2,z2,q2⟩:=zc hth (j:=2) (by omega)
     obtain ⟨y3,z3,q3⟩:=zc hth (j:=3) (by omega)
     obtain ⟨y4,z4,q4⟩:=zc hth (j:=4) (by omega)
     obtain ⟨y5,z5,q5⟩:=zc hth (j:=5) (by omega)
     have n5':=n5 (by omega)
     clear hall hR hth
     rw [if_pos (by rfl)]
     unfold Oper.wp
     go_simp
     have HR4:=r8_4 (za HRR) hxi n5'
     conv at HR4=>arg 9; rw [za HV1]
     exact ⟨f,by simp [g1],HR4⟩
    | 5,ho =>
     obtain rfl:=Option.some.inj ho
     have g2:=hR.f2 (hall ⟨2,.data⟩ (by simp) rfl)
     have k4:x[4]? = some true:=hall ⟨4,.chain⟩ (by simp) rfl
     have eV:=hR.s1 k4 hxi
     subst eV
     have HR5:=r8_5 (za HRR) k4 hxi
     clear hall hR
     rw [if_pos (by rfl)]
     unfold Oper.wp
     go_simp
     exact ⟨upd f 5 u7,by simp [upd,g2],HR5⟩
    | i' + 6,ho=>simp at ho
  ·have h0:0 < left:=by simp only at hlf; omega
   obtain ⟨k2,_,hk2,hmi2,hme2⟩:=mi_step hmi h0 hfo (by rw [← cross_meet (za HP),← za HTT]; exact hcr)
   obtain rfl:i = k2:=rise_id hmi.good.rise hio hk2 rfl
   have ho:=hmi.good.left o (List.mem_of_getElem? hio)
   have HMI2:=hide hmi2
   have HIO:=hide hio
   clear hmi2 hmi hfo hcr hlf hk2 hio
   have hii:(0:Int) ≤ i:=by omega
   refine wp_seq_k fun K hK=>?_
   have HK1:=hide hK
   clear hK
   go_wp2_with fail
   refine za HK1 _ _ ?_
   clear HK1
   refine wp_seq_k fun K hK=>?_
   have HK1:=hide hK
   clear hK
   refine wp_block ?_
   refine wp_seq_k fun K2 hK2=>?_
   have HK2:=hide hK2
   clear hK2
   have hsf:=sfl
   go_wp2_with fail
   refine za HK2 _ _ ?_
   clear HK2
   have hbY:Below wr.heap.size wr (wr.alloc (Obj.cells #[.int .i64 0,.int .i64 0,.int .i64 0,.int .i64 0,.int .i64 0,.int .i64 0,.int .i64 0,.float .f64 0,.string ⟨#[]⟩,.int .i64 0,.int .i64 0,.int .i64 0,.int .i64 0,.int .i64 0] 43)):=(Below.refl _ _).alloc (Nat.le_refl _) _
   have hsY:(wr.alloc (Obj.cells #[.int .i64 0,.int .i64 0,.int .i64 0,.int .i64 0,.int .i64 0,.int .i64 0,.int .i64 0,.float .f64 0,.string ⟨#[]⟩,.int .i64 0,.int .i64 0,.int .i64 0,.int .i64 0,.int .i64 0] 43)).heap.size = wr.heap.size + 1:=ze _ _
   have HRT:=hide (zb (za HRT) hbY (by omega))
   have HT0:=hide (zf (za HT0) hbY (by omega))
   have HT1:=hide (zf (za HT1) hbY (by omega))
   have HER2:=hide (zI (za HER) hbY)
   have HEB:Hid (∀ g,u7.ownBlock = some g→w.heap.size + 1 + 1 ≤ g∧g < wr.heap.size):=fun g hg=>(za HER).lt g hg
   have HRD:=hide (zl (za HRD) hbY (Nat.le_refl _))
   have HTE:=hide (zw wr [.int .i64 0,.int .i64 0,.int .i64 0,.int .i64 0,.int .i64 0,.int .i64 0,.int .i64 0,.float .f64 0,.string ⟨#[]⟩,.int .i64 0,.int .i64 0,.int .i64 0,.int .i64 0,.int .i64 0] 43)
   have HBW:=hide ((za HBW).trans (hbY.mono (za HBW).size))
   clear hbY HER HLV
   have HTE:Hid (World.there (wr.alloc (Obj.cells #[.int .i64 0,.int .i64 0,.int .i64 0,.int .i64 0,.int .i64 0,.int .i64 0,.int .i64 0,.float .f64 0,.string ⟨#[]⟩,.int .i64 0,.int .i64 0,.int .i64 0,.int .i64 0,.int .i64 0] 43)) wr.heap.size 0 14):=za HTE
   generalize wr.alloc (Obj.cells #[.int .i64 0,.int .i64 0,.int .i64 0,.int .i64 0,.int .i64 0,.int .i64 0,.int .i64 0,.float .f64 0,.string ⟨#[]⟩,.int .i64 0,.int .i64 0,.int .i64 0,.int .i64 0,.int .i64 0] 43) = Y at HRT HT0 HT1 HER2 HRD HTE HBW hsY ⊢
   generalize wr.heap.size = E at HEB HTE hsY hsz ⊢
   have c0:Y.cell? ⟨w.heap.size,0,none⟩ = some (.int .i64 next):=za HRT 0 _ rfl
   have c1:Y.cell? ⟨w.heap.size,1,none⟩ = some (.int .i64 cs):=za HRT 1 _ rfl
   have c2:Y.cell? ⟨w.heap.size,2,none⟩ = some (.int .i64 tt):=za HRT 2 _ rfl
   have c3:Y.cell? ⟨w.heap.size,3,none⟩ = some (.int .i64 left):=za HRT 3 _ rfl
   have c4:Y.cell? ⟨w.heap.size,4,none⟩ = some (.int .i64 cl):=za HRT 4 _ rfl
   have c5:Y.cell? ⟨w.heap.size,5,none⟩ = some (.string cg):=za HRT 5 _ rfl
   refine wp_seq_k fun K2 hK2=>?_
   have HK2:=hide hK2
   clear hK2
   go_wp2_with fail
   refine (l04Hit_any _ l' ⟨next,cs,tt,left,cl,cg⟩ o i Y (za HRD) (by omega) (za HIO) hl0 hl1 (by omega) ho.2).mono ?_
   rintro e w2 ⟨v2,rfl,ho2,hb2⟩
   simp only [Od.vs,Ev.vs,trE,zCm]
   simp only at ho2
   have hq0':0 ≤ min left o.left:=by omega
   generalize min left o.left = q at ho2 HMI2 hme2 hq0' ⊢
   have HO2:=hide ho2
   have HB2:=hide hb2
   have hTa:=zf (za HT0) hb2 (by omega)
   have hTb:=zf (za HTE) hb2 (by omega)
   have HTA:=hide hTa
   have HTB:=hide hTb
   have HT1':=hide (zf (za HT1) hb2 (by omega))
   have HER3:=hide (zI (za HER2) hb2)
   have HBW2:=hide ((za HBW).trans (hb2.mono (za HBW).size))
   have hs2:=hb2.size
   obtain ⟨ya0,za0,qa0⟩:=zc hTa (j:=0) (by omega)
   obtain ⟨ya1,za1,qa1⟩:=zc hTa (j:=1) (by omega)
   obtain ⟨ya2,za2,qa2⟩:=zc hTa (j:=2) (by omega)
   obtain ⟨ya3,za3,qa3⟩:=zc hTa (j:=3) (by omega)
   obtain ⟨ya4,za4,qa4⟩:=zc hTa (j:=4) (by omega)
   obtain ⟨ya5,za5,qa5⟩:=zc hTa (j:=5) (by omega)
   obtain ⟨yb0,zb0,qb0⟩:=zc hTb (j:=0) (by omega)
   obtain ⟨yb1,zb1,qb1⟩:=zc hTb (j:=1) (by omega)
   obtain ⟨yb2,zb2,qb2⟩:=zc hTb (j:=2) (by omega)
   obtain ⟨yb3,zb3,qb3⟩:=zc hTb (j:=3) (by omega)
   obtain ⟨yb4,zb4,qb4⟩:=zc hTb (j:=4) (by omega)
   obtain ⟨yb5,zb5,qb5⟩:=zc hTb (j:=5) (by omega)
   obtain ⟨yb6,zb6,qb6⟩:=zc hTb (j:=6) (by omega)
   obtain ⟨yb7,zb7,qb7⟩:=zc hTb (j:=7) (by omega)
   obtain ⟨yb8,zb8,qb8⟩:=zc hTb (j:=8) (by omega)
   obtain ⟨yb9,zb9,qb9⟩:=zc hTb (j:=9) (by omega)
   obtain ⟨yb10,zb10,qb10⟩:=zc hTb (j:=10) (by omega)
   obtain ⟨yb11,zb11,qb11⟩:=zc hTb (j:=11) (by omega)
   obtain ⟨yb12,zb12,qb12⟩:=zc hTb (j:=12) (by omega)
   obtain ⟨yb13,zb13,qb13⟩:=zc hTb (j:=13) (by omega)
   have hES:E ≠ w.heap.size:=by omega
   have hSE:w.heap.size ≠ E:=by omega
   clear c0 c1 c2 c3 c4 c5 ho2 hb2 hTa hTb HT0 HTE HT1 HER2 HBW HRD HRT
   go_wp2_with fail
   refine za HK2 _ _ ?_
   clear HK2 za0 qa0 za1 qa1 za2 qa2 za3 qa3 za4 qa4 za5 qa5 zb0 qb0 zb1 qb1 zb2 qb2 zb3 qb3 zb4 qb4 zb5 qb5 zb6 qb6 zb7 qb7 zb8 qb8 zb9 qb9 zb10 qb10 zb11 qb11 zb12 qb12 zb13 qb13
   have eW:((((((((((((((((((((w2.setCell ⟨w.heap.size,0,none⟩ (.int .i64 next)).setCell ⟨w.heap.size,1,none⟩ (.int .i64 cs)).setCell ⟨w.heap.size,2,none⟩ (.int .i64 tt)).setCell ⟨w.heap.size,3,none⟩ (.int .i64 (left - q))).setCell ⟨w.heap.size,4,none⟩ (.int .i64 cl)).setCell ⟨w.heap.size,5,none⟩ (.string cg)).setCell ⟨E,0,none⟩ (.int .i64 3)).setCell ⟨E,1,none⟩ (.int .i64 0)).setCell ⟨E,2,none⟩ (.int .i64 0)).setCell ⟨E,3,none⟩ (.int .i64 0)).setCell ⟨E,4,none⟩ (.int .i64 0)).setCell ⟨E,5,none⟩ (.int .i64 0)).setCell ⟨E,6,none⟩ (.int .i64 0)).setCell ⟨E,7,none⟩ (.float .f64 0)).setCell ⟨E,8,none⟩ (.string ⟨#[]⟩)).setCell ⟨E,9,none⟩ (.int .i64 next)).setCell ⟨E,10,none⟩ (.int .i64 o.id)).setCell ⟨E,11,none⟩ (.int .i64 q)).setCell ⟨E,12,none⟩ (.int .i64 o.ticks)).setCell ⟨E,13,none⟩ (.int .i64 0)) = (w2.setCells w.heap.size 0 [.int .i64 next,.int .i64 cs,.int .i64 tt,.int .i64 (left - q),.int .i64 cl,.string cg]).setCells E 0 [.int .i64 3,.int .i64 0,.int .i64 0,.int .i64 0,.int .i64 0,.int .i64 0,.int .i64 0,.float .f64 0,.string ⟨#[]⟩,.int .i64 next,.int .i64 o.id,.int .i64 q,.int .i64 o.ticks,.int .i64 0]:=rfl
   rw [eW]
   clear eW
   obtain ⟨V1,hV1⟩:∃ V:World,V = w2.setCells w.heap.size 0 [.int .i64 next,.int .i64 cs,.int .i64 tt,.int .i64 (left - q),.int .i64 cl,.string cg]:=⟨_,rfl⟩
   rw [← hV1]
   have HR1:Hid (V1.rangeAt w.heap.size 0 [.int .i64 next,.int .i64 cs,.int .i64 tt,.int .i64 (left - q),.int .i64 cl,.string cg]):=by rw [hV1]; exact World.rangeAt_setCells_same w2 _ 0 _ (fun j hj=>za HTA j hj)
   have HG1:Hid (V1.there w.heap.size 0 6):=by rw [hV1]; exact World.there_setCells (za HTA) _ _ _
   have HG2:Hid (V1.there (w.heap.size + 1) 0 6):=by rw [hV1]; exact World.there_setCells (za HT1') _ _ _
   have HG3:Hid (V1.there E 0 14):=by rw [hV1]; exact World.there_setCells (za HTB) _ _ _
   have HO1:Hid (ORow V1 Y.heap.size v2 (zau l' i o q)):=by rw [hV1]; exact zax (by omega) _ _ _ (za HO2)
   have HE1:Hid (ERow V1 (w.heap.size + 1 + 1) u7 ts):=by rw [hV1]; exact zbe (fun e=>by have:=(za HEB _ e.symm).1; omega) _ _ _ (za HER3)
   have HB1:Hid (Below w.heap.size w V1):=by rw [hV1]; exact zm _ (Nat.le_refl _) _ _ _ (za HBW2)
   have hs1:V1.heap.size = w2.heap.size:=by rw [hV1,zS]
   clear hV1
   obtain ⟨V2,hV2⟩:∃ V:World,V = V1.setCells E 0 [.int .i64 3,.int .i64 0,.int .i64 0,.int .i64 0,.int .i64 0,.int .i64 0,.int .i64 0,.float .f64 0,.string ⟨#[]⟩,.int .i64 next,.int .i64 o.id,.int .i64 q,.int .i64 o.ticks,.int .i64 0]:=⟨_,rfl⟩
   rw [← hV2]
   have HRE:Hid (V2.rangeAt E 0 [.int .i64 3,.int .i64 0,.int .i64 0,.int .i64 0,.int .i64 0,.int .i64 0,.int .i64 0,.float .f64 0,.string ⟨#[]⟩,.int .i64 next,.int .i64 o.id,.int .i64 q,.int .i64 o.ticks,.int .i64 0]):=by rw [hV2]; exact World.rangeAt_setCells_same V1 _ 0 _ (fun j hj=>za HG3 j hj)
   have HR2:Hid (V2.rangeAt w.heap.size 0 [.int .i64 next,.int .i64 cs,.int .i64 tt,.int .i64 (left - q),.int .i64 cl,.string cg]):=by rw [hV2]; exact zcd (za HR1) (by omega)
   have HG4:Hid (V2.there w.heap.size 0 6):=by rw [hV2]; exact World.there_setCells (za HG1) _ _ _
   have HG5:Hid (V2.there (w.heap.size + 1) 0 6):=by rw [hV2]; exact World.there_setCells (za HG2) _ _ _
   have HO3:Hid (ORow V2 Y.heap.size v2 (zau l' i o q)):=by rw [hV2]; exact zax (by omega) _ _ _ (za HO1)
   have HE2:Hid (ERow V2 (w.heap.size + 1 + 1) u7 ts):=by rw [hV2]; exact zbe (fun e=>by have:=(za HEB _ e.symm).2; omega) _ _ _ (za HE1)
   have HB4:Hid (Below w.heap.size w V2):=by rw [hV2]; exact zm _ (by omega) _ _ _ (za HB1)
   have hs4:Y.heap.size ≤ V2.heap.size:=by rw [hV2,zS,hs1]; exact hs2
   clear hV2 HR1 HG1 HG2 HG3 HO1 HE1 HB1 hs1 HO2 HB2 HTA HTB HT1' HER3 HBW2
   have e0:V2.cell? ⟨E,0,none⟩ = some (.int .i64 3):=za HRE 0 _ rfl
   have e1:V2.cell? ⟨E,1,none⟩ = some (.int .i64 0):=za HRE 1 _ rfl
   have e2:V2.cell? ⟨E,2,none⟩ = some (.int .i64 0):=za HRE 2 _ rfl
   have e3:V2.cell? ⟨E,3,none⟩ = some (.int .i64 0):=za HRE 3 _ rfl
   have e4:V2.cell? ⟨E,4,none⟩ = some (.int .i64 0):=za HRE 4 _ rfl
   have e5:V2.cell? ⟨E,5,none⟩ = some (.int .i64 0):=za HRE 5 _ rfl
   have e6:V2.cell? ⟨E,6,none⟩ = some (.int .i64 0):=za HRE 6 _ rfl
   have e7:V2.cell? ⟨E,7,none⟩ = some (.float .f64 0):=za HRE 7 _ rfl
   have e8:V2.cell? ⟨E,8,none⟩ = some (.string ⟨#[]⟩):=za HRE 8 _ rfl
   have e9:V2.cell? ⟨E,9,none⟩ = some (.int .i64 next):=za HRE 9 _ rfl
   have e10:V2.cell? ⟨E,10,none⟩ = some (.int .i64 o.id):=za HRE 10 _ rfl
   have e11:V2.cell? ⟨E,11,none⟩ = some (.int .i64 q):=za HRE 11 _ rfl
   have e12:V2.cell? ⟨E,12,none⟩ = some (.int .i64 o.ticks):=za HRE 12 _ rfl
   have e13:V2.cell? ⟨E,13,none⟩ = some (.int .i64 0):=za HRE 13 _ rfl
   have HE3:=hide ((za HE2).alloc (Obj.cells #[.int .i64 3,.int .i64 0,.int .i64 0,.int .i64 0,.int .i64 0,.int .i64 0,.int .i64 0,.float .f64 0,.string ⟨#[]⟩,.int .i64 next,.int .i64 o.id,.int .i64 q,.int .i64 o.ticks,.int .i64 0] 43))
   have hs5:V2.heap.size + 1 ≤ (V2.alloc (Obj.cells #[.int .i64 3,.int .i64 0,.int .i64 0,.int .i64 0,.int .i64 0,.int .i64 0,.int .i64 0,.float .f64 0,.string ⟨#[]⟩,.int .i64 next,.int .i64 o.id,.int .i64 q,.int .i64 o.ticks,.int .i64 0] 43)).heap.size:=Nat.le_of_eq (ze _ _).symm
   have hb5:Below V2.heap.size V2 (V2.alloc (Obj.cells #[.int .i64 3,.int .i64 0,.int .i64 0,.int .i64 0,.int .i64 0,.int .i64 0,.int .i64 0,.float .f64 0,.string ⟨#[]⟩,.int .i64 next,.int .i64 o.id,.int .i64 q,.int .i64 o.ticks,.int .i64 0] 43)):=(Below.refl _ _).alloc (Nat.le_refl _) _
   have HSRC:Hid (∀ j u,[.int .i64 3,.int .i64 0,.int .i64 0,.int .i64 0,.int .i64 0,.int .i64 0,.int .i64 0,.float .f64 0,.string ⟨#[]⟩,.int .i64 next,.int .i64 o.id,.int .i64 q,.int .i64 o.ticks,.int .i64 0][j]? = some u→(V2.alloc (Obj.cells #[.int .i64 3,.int .i64 0,.int .i64 0,.int .i64 0,.int .i64 0,.int .i64 0,.int .i64 0,.float .f64 0,.string ⟨#[]⟩,.int .i64 next,.int .i64 o.id,.int .i64 q,.int .i64 o.ticks,.int .i64 0] 43)).cell? ((⟨V2.heap.size,0,none⟩:Addr).add j) = some u):=fun j u hu=>cellsQ V2 [.int .i64 3,.int .i64 0,.int .i64 0,.int .i64 0,.int .i64 0,.int .i64 0,.int .i64 0,.float .f64 0,.string ⟨#[]⟩,.int .i64 next,.int .i64 o.id,.int .i64 q,.int .i64 o.ticks,.int .i64 0] 43 j u hu
   have HO4:=hide (zk (za HO3) hb5)
   have HR3:=hide (zb (za HR2) hb5 (by omega))
   have HG6:=hide (zf (za HG4) hb5 (by omega))
   have HG7:=hide (zf (za HG5) hb5 (by omega))
   have HB5:=hide ((za HB4).trans (hb5.mono (za HB4).size))
   have HEBv:Hid (∀ g,u7.ownBlock = some g→w.heap.size + 1 + 1 ≤ g):=fun g hg=>(za HEB g hg).1
   clear hb5 HO3 HR2 HG4 HG5 HB4 HEB
   go_wp2_with (at_builtin; go_must (refine wpList_append_own _ rfl _ _ 36 rfl (w.heap.size + 1 + 1) 43 i0 _ 14 120 Tryz.underlying36 hi0 hz0 hz1 hz2 rfl (by decide) u7 ts.length (ts.flatMap Ev.vs) rfl (za HE3) ⟨V2.heap.size,0,none⟩ 1 1 [.int .i64 3,.int .i64 0,.int .i64 0,.int .i64 0,.int .i64 0,.int .i64 0,.int .i64 0,.float .f64 0,.string ⟨#[]⟩,.int .i64 next,.int .i64 o.id,.int .i64 q,.int .i64 o.ticks,.int .i64 0] rfl rfl (za HSRC) (by simp [Value.oneCell']) (by unfold maxLen; omega) (by omega) (by omega) ?_); intro v5 w5 hown5 hg5 _; have HO5:=hide hown5; have HG5:=hide hg5; clear hown5 hg5)
   have HRO:=hide ((za HO4).kept (za HG5) (zB (za HO4) (za HE3) (by decide)))
   have HNS:Hid (∀ b,b < w.heap.size + 1 + 1→some b ≠ u7.ownBlock):=fun b hb e=>by have:=za HEBv b e.symm; omega
   have HRT5:=hide (zu (za HR3) (za HG5) (by omega) (za HNS _ (by omega)))
   have HT5:=hide (zar (za HG6) (za HG5) (by omega) (za HNS _ (by omega)))
   have HT6:=hide (zar (za HG7) (za HG5) (by omega) (za HNS _ (by omega)))
   have HB6:=hide ((za HB5).grown (za HG5) (za HB5).size (fun k hk=>by have:=za HEBv k hk; omega))
   have hs6:=(za HG5).size
   have HEN:Hid (ERow w5 (w.heap.size + 1 + 1) v5 (ts ++ [trE next o.id q o.ticks])):=by
    show w5.ownsRow _ _ _ _ (ts ++ [trE next o.id q o.ticks]).length _
    rw [List.length_append,List.flatMap_append]
    have:=za HO5
    simpa [Ev.vs,trE,zCm] using this
   have x0:w5.cell? ⟨w.heap.size,0,none⟩ = some (.int .i64 next):=za HRT5 0 _ rfl
   have x1:w5.cell? ⟨w.heap.size,1,none⟩ = some (.int .i64 cs):=za HRT5 1 _ rfl
   have x2:w5.cell? ⟨w.heap.size,2,none⟩ = some (.int .i64 tt):=za HRT5 2 _ rfl
   have x3:w5.cell? ⟨w.heap.size,3,none⟩ = some (.int .i64 (left - q)):=za HRT5 3 _ rfl
   have x4:w5.cell? ⟨w.heap.size,4,none⟩ = some (.int .i64 cl):=za HRT5 4 _ rfl
   have x5:w5.cell? ⟨w.heap.size,5,none⟩ = some (.string cg):=za HRT5 5 _ rfl
   try simp only [Exit.inBlock,Exit.then]
   refine za HK1 _ _ ?_
   clear HK1 HE3 HSRC HO4 HR3 HG6 HG7 HB5 HG5 HO5 e0 e1 e2 e3 e4 e5 e6 e7 e8 e9 e10 e11 e12 e13
   have hgl:=(za HMI2).good
   have hln:=hgl.len
   go_wp2_with fail
   refine (l04Next_any v2 (zau l' i o q) ⟨next,cs,tt,left - q,cl,cg⟩ w5 (zM (za HRO) (by omega)) hgl.rise (by omega) (za HS)).mono ?_
   rintro e w6 ⟨k6,rfl,hnx6,hb6⟩
   have HN:Hid (MaI ⟨ck,cs,ct,cl,cq,ci,cp,cg⟩ next w (.slice a l.length cap) l tt F (2 * (zau l' i o q).length + (if 0 < left - q then 1 else 0)) v2 v5 (.int .i64 k6) w6) :=
    ⟨zau l' i o q,left - q,ts ++ [trE next o.id q o.ticks],k6,rfl,.inr (zaB (zk (za HRO) hb6) (by omega)),zI (za HEN) hb6,hnx6,za HMI2,zb (za HRT5) hb6 (by omega),zf (za HT5) hb6 (by omega),zf (za HT6) hb6 (by omega),(za HB6).trans (hb6.mono (za HB6).size),by have:=hb6.size; omega,Nat.le_refl _⟩
   clear hnx6 hb6
   go_wp2_with fail
   go_roundg (2 * (zau l' i o q).length + (if 0 < left - q then 1 else 0))
   case measure=>rw [if_pos h0] at hme; omega
   case rel=>exact za HN
end Go.Proofs.YtopjoogdpjaocaaGreat
