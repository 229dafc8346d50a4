/-
  An event that came in, opened: each number, float and text fits its kind.
-/
import Derived.Test.YtnphbkgfjanmgaaGreatDoorAj46
import Derived.LoopN
set_option linter.unusedVariables false
set_option maxHeartbeats 6400000
set_option maxRecDepth 100000
namespace Go.Proofs.YtnphbkgfjanmgaaGreatDoor
open Go.RowKit Go.ChangeShapes Go.WideShapes Go.Deep
set_option linter.unusedVariables false

structure Ev.ok (e:Ev):Prop where
 k:(Lit.int .i64 e.kind).wf = true
 c:e.cmd.ok
 a:(Lit.int .i64 e.id).wf = true
 o:(Lit.int .i64 e.other).wf = true
 q:(Lit.int .i64 e.qty).wf = true
 p:(Lit.int .i64 e.price).wf = true
 r:(Lit.int .i64 e.reason).wf = true
theorem flt_lt {p:Nat} (h:(Lit.float .f64 p).wf = true):p < 18446744073709551616:=by
 simpa [Lit.wf] using h
theorem Ev.ok.fit {e:Ev} (h:e.ok):e.fit:=by
 refine ⟨fun o=>?_,bounds_i64 h.k,flt_lt h.c.p,h.c.g⟩
 unfold Ev.num
 split
 ·exact bounds_i64 h.c.k
 ·exact bounds_i64 h.c.s
 ·exact bounds_i64 h.c.t
 ·exact bounds_i64 h.c.l
 ·exact bounds_i64 h.c.q
 ·exact bounds_i64 h.c.i
 ·exact bounds_i64 h.a
 ·exact bounds_i64 h.o
 ·exact bounds_i64 h.q
 ·exact bounds_i64 h.p
 ·exact bounds_i64 h.r
 ·omega
section
variable {yd:Type} {enc:TypeId × Value→yd} {w:World} {base:Nat} {spare:Nat→Bool} {held:Bool}
theorem list14 {L:List Value} (h:L.length = 14):∃ v0 v1 v2 v3 v4 v5 v6 v7 v8 v9 v10 v11 v12 v13,L = [v0,v1,v2,v3,v4,v5,v6,v7,v8,v9,v10,v11,v12,v13] :=
 match L,h with
 | [v0,v1,v2,v3,v4,v5,v6,v7,v8,v9,v10,v11,v12,v13],_=>⟨v0,v1,v2,v3,v4,v5,v6,v7,v8,v9,v10,v11,v12,v13,rfl⟩
theorem ev_opened {fuel:Nat} {L:List Value} {x:DataW yd × List MemPlace} (h:DataW.trod enc Tryz.prog w base spare held fuel 46 L = some x):∃ e:Ev,L = e.vs∧e.ok:=by
 obtain ⟨xs,n,_,_,xz,hxl,hf⟩:=DataW.trod_struct Tryz.underlying46 h
 have hl14:L.length = 14:=xz.trans (by kernel_rfl)
 have k3:Tryz.prog.cellsOf 3 = 1:=by kernel_rfl
 have k8:Tryz.prog.cellsOf 44 = 8:=by kernel_rfl
 have hx:∀ i,i < 7→∃ y,xs[i]? = some y:=fun i hi=>⟨_,yI (by rw [hxl]; exact hi)⟩
 obtain ⟨y0,e0⟩:=hx 0 (by omega)
 obtain ⟨y1,e1⟩:=hx 1 (by omega)
 obtain ⟨y2,e2⟩:=hx 2 (by omega)
 obtain ⟨y3,e3⟩:=hx 3 (by omega)
 obtain ⟨y4,e4⟩:=hx 4 (by omega)
 obtain ⟨y5,e5⟩:=hx 5 (by omega)
 obtain ⟨y6,e6⟩:=hx 6 (by omega)
 have f0:DataW.trod enc Tryz.prog w base spare held n 3 ((L.drop 0).take (Tryz.prog.cellsOf 3)) = some y0:=(hf 0 _ rfl).trans e0
 have f1:DataW.trod enc Tryz.prog w base spare held n 44 ((L.drop 1).take (Tryz.prog.cellsOf 44)) = some y1:=(hf 1 _ rfl).trans e1
 have f2:DataW.trod enc Tryz.prog w base spare held n 3 ((L.drop 9).take (Tryz.prog.cellsOf 3)) = some y2:=(hf 2 _ rfl).trans e2
 have f3:DataW.trod enc Tryz.prog w base spare held n 3 ((L.drop 10).take (Tryz.prog.cellsOf 3)) = some y3:=(hf 3 _ rfl).trans e3
 have f4:DataW.trod enc Tryz.prog w base spare held n 3 ((L.drop 11).take (Tryz.prog.cellsOf 3)) = some y4:=(hf 4 _ rfl).trans e4
 have f5:DataW.trod enc Tryz.prog w base spare held n 3 ((L.drop 12).take (Tryz.prog.cellsOf 3)) = some y5:=(hf 5 _ rfl).trans e5
 have f6:DataW.trod enc Tryz.prog w base spare held n 3 ((L.drop 13).take (Tryz.prog.cellsOf 3)) = some y6:=(hf 6 _ rfl).trans e6
 clear hf hx e0 e1 e2 e3 e4 e5 e6 h xz
 obtain ⟨v0,v1,v2,v3,v4,v5,v6,v7,v8,v9,v10,v11,v12,v13,rfl⟩:=list14 hl14
 clear hl14
 simp only [k3,k8,List.drop_zero,yV,yU,List.take_zero] at f0 f1 f2 f3 f4 f5 f6
 obtain ⟨n0,c0,_,b0⟩:=DataW.trod_int Tryz.underlying3 f0
 obtain ⟨c,c1,b1⟩:=cm_opened f1
 obtain ⟨n2,c2,_,b2⟩:=DataW.trod_int Tryz.underlying3 f2
 obtain ⟨n3,c3,_,b3⟩:=DataW.trod_int Tryz.underlying3 f3
 obtain ⟨n4,c4,_,b4⟩:=DataW.trod_int Tryz.underlying3 f4
 obtain ⟨n5,c5,_,b5⟩:=DataW.trod_int Tryz.underlying3 f5
 obtain ⟨n6,c6,_,b6⟩:=DataW.trod_int Tryz.underlying3 f6
 simp only [Cm.vs,List.cons.injEq,and_true] at c0 c1 c2 c3 c4 c5 c6
 obtain ⟨rfl,rfl,rfl,rfl,rfl,rfl,rfl,rfl⟩:=c1
 subst c0 c2 c3 c4 c5 c6
 exact ⟨⟨n0,c,n2,n3,n4,n5,n6⟩,rfl,⟨b0,b1,b2,b3,b4,b5,b6⟩⟩
end
end Go.Proofs.YtnphbkgfjanmgaaGreatDoor
namespace Go.Proofs.YtnphbkgfjanmgaaGreatDoor
open Go.RowKit Go.ChangeShapes Go.WideShapes Go.Deep
set_option linter.unusedVariables false

section
variable {yd:Type} {enc:TypeId × Value→yd} {w:World} {base:Nat} {spare:Nat→Bool} {held:Bool}
def IsEvents (w:World) (a:Option Addr) (len cap:Nat):Prop :=
 len ≤ maxLen∧(len ≤ 1073741824→∃ l:List Ev,l.length = len∧RdR Ev.vs 14 w (.slice a len cap) l∧∀ c ∈ l,c.ok)
theorem events_opened {fuel:Nat} {a:Option Addr} {len cap:Nat} {x:DataW yd × List MemPlace} (h:DataW.trod enc Tryz.prog w base spare held fuel 25 [.slice a len cap] = some x):IsEvents w a len cap:=by
 rcases open_slice Tryz.underlying25 h with ⟨kI,_⟩ | ⟨ad,ln,O,m,n,ya,Pl,kI,_,hl,hm,hmm,_,hel⟩
 ·simp only [List.cons.injEq,Value.slice.injEq,and_true] at kI
  obtain ⟨rfl,rfl,rfl⟩:=kI
  exact ⟨Nat.zero_le _,fun _=>⟨[],rfl,⟨none,0,rfl,by simp,fun h=>absurd rfl h⟩,by simp⟩⟩
 ·simp only [List.cons.injEq,Value.slice.injEq,and_true] at kI
  obtain ⟨rfl,rfl,rfl⟩:=kI
  have k37:Tryz.prog.cellsOf 46 = 14:=by kernel_rfl
  rw [k37] at hel
  have hlm:len ≤ m:=by rw [hmm]; split <;> omega
  refine ⟨by omega,fun Q=>?_⟩
  have hc:∀ i,i < len→∃ c:Ev,c.ok∧∀ j v,c.vs[j]? = some v→w.cell? (ad.add (i * 14 + j)) = some v:=by
   intro i hi
   obtain ⟨cs',N,Y⟩:=hel i (by omega)
   obtain ⟨c,rfl,vr⟩:=ev_opened Y
   obtain ⟨_,_,xr⟩:=World.cells?_some N
   refine ⟨c,vr,fun j v hv=>?_⟩
   have:=xr j (yH.1 hv).1
   rw [add_add] at this
   rw [this,hv]
  have xC:0 < len→∃ b off,ad = (D b off)∧b < w.heap.size:=by
   intro hp
   obtain ⟨c,_,h0⟩:=hc 0 hp
   have h0:=h0 0 _ rfl
   obtain ⟨b,off,spot⟩:=ad
   have hspot:spot = none:=by simpa [Addr.add] using World.cell?_spot h0
   subst hspot
   exact ⟨b,off,rfl,by have:=yL w _ h0; simpa [Addr.add] using this⟩
  haveI:Inhabited Ev:=⟨⟨0,⟨0,0,0,0,0,0,0,⟨#[]⟩⟩,0,0,0,0,0⟩⟩
  obtain ⟨xo,hF⟩:=choose_lt hc
  have hget:∀ i c,((List.range len).map xo)[i]? = some c→i < len∧c = xo i:=by
   intro i c hi
   have xI:i < len:=by simpa using (yH.1 hi).1
   refine ⟨xI,?_⟩
   rw [List.getElem?_map,List.getElem?_range xI] at hi
   simpa using hi.symm
  refine ⟨(List.range len).map xo,by simp,⟨some ad,cap,by simp,by simpa using Q,fun xA=>?_⟩,fun c hcm=>?_⟩
  ·have hp:0 < len:=by
    rcases Nat.eq_zero_or_pos len with h0 | h0
    ·subst h0; simp at xA
    ·exact h0
   obtain ⟨b,off,rfl,xI⟩:=xC hp
   refine ⟨b,off,rfl,xI,fun i c hi j v hv=>?_⟩
   obtain ⟨vE,rfl⟩:=hget i c hi
   have:=(hF i vE).2 j v hv
   rw [Addr.add_mid] at this
   rw [Nat.add_assoc]; exact this
  ·obtain ⟨i,hi⟩:=List.mem_iff_getElem?.1 hcm
   obtain ⟨vE,rfl⟩:=hget i c hi
   exact (hF i vE).1
end
end Go.Proofs.YtnphbkgfjanmgaaGreatDoor
namespace Go.Proofs.YtnphbkgfjanmgaaGreatDoor
open Go.RowKit
theorem toOrder_any (o:Od) (w:World) :
  Calls Tryz.prog 55 #[.agg (yx o.id o.side o.ticks o.left o.life o.tag).toArray] w fun e w'=>e = .returned (.agg (yx o.id o.side o.ticks o.left o.life o.tag).toArray)∧yp w w':=by
 obtain ⟨id,side,ticks,left,life,tag⟩:=o
 simp only
 go_enter Tryz.func55,Tryz.ntmps55
 go_wp2_with fail
 go_returns
 refine ⟨rfl,?_⟩
 go_grown
theorem toOrderS_any (v:Value) (l:List Od) (w:World) (hr:RdR Od.vs 6 w v l) :
  Calls Tryz.prog 29 #[v] w fun e w'=>∃ v',e = .returned v'∧OwnR Od.vs 6 w.heap.size w' v' l∧yp w w':=by
 obtain ⟨a,cap,rfl,hl,hc⟩:=hr
 obtain ⟨i0,hi,uK,uL,uZ⟩:=info_parts Tryz.infoOrder
 have xr:∀ (k:Nat) (c:Od),l[k]? = some c→∃ b off,a = some (D b off)∧b < w.heap.size∧w.rangeAt b (off + k * 6) c.vs:=by
  intro k c hk
  obtain ⟨b,off,N,Y,h3⟩:=hc (by intro h; rw [h] at hk; simp at hk)
  exact ⟨b,off,N,Y,h3 k c hk⟩
 have HC:=H xr
 clear xr hc
 go_enter Tryz.func29,Tryz.ntmps29
 go_wp2_with (at_make; go_must (refine wpList_make_full _ rfl _ _ 32 rfl w.heap.size 78 i0 _ 6 Tryz.underlying32 hi uK uL _ _ _ _ l.length rfl rfl rfl rfl (by rw [uZ]; omega) (by unfold maxLen; omega) yb ?_); intro w1 xS jG)
 have HA:=H (fill_made (f:=Od.vs) xS jG)
 clear xS jG hi uK uL uZ
 go_loopw [4] (fun i wr=>∃ k:Nat,k ≤ l.length∧i = I k∧FillR Od.vs 6 l.length w.heap.size w wr (l.take k)) (fun i _=>l.length - (intOf i).toNat)
 case atStart=>exact ⟨0,Nat.zero_le _,rfl,by simpa using U HA⟩
 case round =>
  obtain ⟨k,hk,rfl,jO⟩:=hrel
  have HF:=H jO
  clear jO HA
  by_cases xI:k < l.length
  ·obtain ⟨c,uu⟩:∃ c,l[k]? = some c:=⟨_,yI xI⟩
   have jV:=H uu
   obtain ⟨b,off,rfl,Q,F⟩:=U HC k c uu
   have kT:=zc F (U HF).2.2.2.2 Q
   obtain ⟨g0,g1,g2,g3,g4,g5⟩:=zB kT
   have uF:(k:Int) < l.length:=by omega
   clear uu F Q kT
   go_wp2_with fail
   refine (toOrder_any c _).mono ?_
   rintro e w2 ⟨rfl,xK⟩
   have vG:=H (fill_below (U HF) xK yb)
   clear xK
   obtain ⟨⟨x0,y0,z0⟩,⟨x1,y1,z1⟩,⟨x2,y2,z2⟩,⟨x3,y3,z3⟩,⟨x4,y4,z4⟩,x5,y5,z5⟩:=there6 (fill_there (U vG) xI)
   go_wp2_with fail
   go_roundw
   case rel =>
    refine ⟨k + 1,by omega,by go_num,?_⟩
    have h:=fill_step c (U vG) (by rw [List.length_take]; omega) Od.len
    rw [← takeR l k c (U jV),show (l.take k).length = k by rw [List.length_take]; omega] at h
    exact h
   case measure=>simp [intOf]; omega
  ·go_wp2_with fail
   go_ret
   have h:=U HF
   rw [xa (by omega)] at h
   exact ⟨_,rfl,fill_own h rfl hl,h.2.2.2.2⟩
theorem eqOrder_same (o:Od) (w:World) :
  Calls Tryz.prog 61 #[.agg (yx o.id o.side o.ticks o.left o.life o.tag).toArray,.agg (yx o.id o.side o.ticks o.left o.life o.tag).toArray] w fun e w'=>e = .returned (.bool true)∧yp w w':=by
 obtain ⟨id,side,ticks,left,life,tag⟩:=o
 simp only
 go_enter Tryz.func61,Tryz.ntmps61
 go_wp2_with fail
 go_returns
 refine ⟨rfl,?_⟩
 go_grown
theorem eqOrderS_same (va vb:Value) (l:List Od) (w:World) (ha:RdR Od.vs 6 w va l) (Q:RdR Od.vs 6 w vb l) :
  Calls Tryz.prog 33 #[va,vb] w fun e w'=>e = .returned (.bool true)∧yp w w':=by
 obtain ⟨aa,ca,rfl,hl,hca⟩:=ha
 obtain ⟨ab,cb,rfl,_,hcb⟩:=Q
 have xr:∀ (k:Nat) (c:Od),l[k]? = some c→∃ b off b' qA,aa = some (D b off)∧ab = some (D b' qA)∧b < w.heap.size∧b' < w.heap.size∧w.rangeAt b (off + k * 6) c.vs∧w.rangeAt b' (qA + k * 6) c.vs:=by
  intro k c hk
  have xA:l ≠ []:=by intro h; rw [h] at hk; simp at hk
  obtain ⟨b,off,N,Y,h3⟩:=hca xA
  obtain ⟨b',qA,pJ,oU,h3'⟩:=hcb xA
  exact ⟨b,off,b',qA,N,pJ,Y,oU,h3 k c hk,h3' k c hk⟩
 have HC:=H xr
 clear xr hca hcb
 go_enter Tryz.func33,Tryz.ntmps33
 go_wp2_with fail
 go_loopw [5] (fun i wr=>∃ k:Nat,k ≤ l.length∧i = I k∧yp w wr) (fun i _=>l.length - (intOf i).toNat)
 case atStart=>exact ⟨0,Nat.zero_le _,rfl,Below.refl _ _⟩
 case round =>
  obtain ⟨k,hk,rfl,xl⟩:=hrel
  have HB:=H xl
  clear xl
  by_cases xI:k < l.length
  ·obtain ⟨c,uu⟩:∃ c,l[k]? = some c:=⟨_,yI xI⟩
   obtain ⟨b,off,b',qA,rfl,rfl,Q,oW,F,qz⟩:=U HC k c uu
   obtain ⟨g0,g1,g2,g3,g4,g5⟩:=zB (zc F (U HB) Q)
   obtain ⟨e0,e1,e2,e3,e4,e5⟩:=zB (zc qz (U HB) oW)
   have uF:(k:Int) < l.length:=by omega
   clear uu F qz Q oW
   go_wp2_with fail
   go_region_with (go_at_call 61; refine (eqOrder_same c _).mono ?_; rintro e w2 ⟨rfl,xK⟩; have xw:=H ((U HB).drew.trans (xK.mono (U HB).drew.size)); clear xK)
   go_wp2_with fail
   go_roundw
   case rel=>exact ⟨k + 1,by omega,by go_num,U xw⟩
   case measure=>simp [intOf]; omega
   all_goals exact ⟨⟨k + 1,by omega,by go_num,U xw⟩,by simp [intOf]; omega⟩
  ·go_wp2_with fail
   go_ret
   exact ⟨rfl,U HB⟩
theorem szOrder_any (o:Od) (x:Int) (w:World) (h0:0 ≤ x) (N:x ≤ 1073741824) (hg:o.tag.size ≤ maxLen) :
  Calls Tryz.prog 46 #[.agg (yx o.id o.side o.ticks o.left o.life o.tag).toArray,I x] w fun e w' =>
   ∃ y:Int,e = .returned (I y)∧-1 ≤ y∧y ≤ x∧yp w w':=by
 obtain ⟨id,side,ticks,left,life,g⟩:=o
 simp only at *
 unfold maxLen at hg
 by_cases h:x < g.size
 ·go_enter Tryz.func46,Tryz.ntmps46
  go_wp2_with fail
  go_ret
  exact ⟨_,rfl,by omega,by omega,by go_grown⟩
 ·go_enter Tryz.func46,Tryz.ntmps46
  go_wp2_with fail
  go_ret
  exact ⟨_,rfl,by omega,by omega,by go_grown⟩
theorem szOrderS_any (v:Value) (l:List Od) (w:World) (hr:RdR Od.vs 6 w v l) (hl:l.length ≤ 1048576) (hg:∀ c ∈ l,c.tag.size ≤ maxLen) :
  Calls Tryz.prog 24 #[v,I 1048576] w fun e w'=>∃ y:Int,e = .returned (I y)∧-1 ≤ y∧y ≤ 1048576∧yp w w':=by
 obtain ⟨a,cap,rfl,_,hc⟩:=hr
 have xr:∀ (k:Nat) (c:Od),l[k]? = some c→∃ b off,a = some (D b off)∧b < w.heap.size∧w.rangeAt b (off + k * 6) c.vs:=by
  intro k c hk
  obtain ⟨b,off,N,Y,h3⟩:=hc (by intro h; rw [h] at hk; simp at hk)
  exact ⟨b,off,N,Y,h3 k c hk⟩
 have HC:=H xr
 have HG:=H hg
 clear xr hc hg
 have pP:¬ (1048576 - (l.length:Int) < 0):=by omega
 go_enter Tryz.func24,Tryz.ntmps24
 go_wp2_with fail
 go_loopw [1,5] (fun xv i wr=>∃ (x:Int) (k:Nat),xv = I x∧0 ≤ x∧x ≤ 1048576∧k ≤ l.length∧i = I k∧yp w wr) (fun _ i _=>l.length - (intOf i).toNat)
 case atStart=>exact ⟨_,0,rfl,by omega,by omega,Nat.zero_le _,rfl,Below.refl _ _⟩
 case round =>
  obtain ⟨x,k,rfl,hx0,hx1,hk,rfl,xl⟩:=hrel
  have HB:=H xl
  clear xl
  by_cases xI:k < l.length
  ·obtain ⟨c,uu⟩:∃ c,l[k]? = some c:=⟨_,yI xI⟩
   obtain ⟨b,off,rfl,Q,F⟩:=U HC k c uu
   have HS:=H (U HG c (yP uu))
   obtain ⟨g0,g1,g2,g3,g4,g5⟩:=zB (zc F (U HB) Q)
   have uF:(k:Int) < l.length:=by omega
   clear uu F Q
   go_wp2_with fail
   refine (szOrder_any c x _ hx0 (by omega) (U HS)).mono ?_
   rintro e w2 ⟨y,rfl,hy0,hy1,xK⟩
   have xw:=H (gu (U HB) xK)
   clear xK
   by_cases hy:y < 0
   ·go_wp2_with fail
    go_ret
    exact ⟨_,rfl,by omega,by omega,U xw⟩
   ·go_wp2_with fail
    go_roundw
    case rel=>exact ⟨y,k + 1,rfl,by omega,by omega,by omega,by go_num,U xw⟩
    case measure=>simp [intOf]; omega
  ·go_wp2_with fail
   go_ret
   exact ⟨_,rfl,by omega,by omega,U HB⟩
theorem szOrderS_long (a:Option Addr) (len cap:Nat) (w:World) (hl:1048576 < len) (hm:len ≤ maxLen) :
  Calls Tryz.prog 24 #[.slice a len cap,I 1048576] w fun e w'=>e = .returned (I (-1))∧w' = w:=by
 unfold maxLen at hm
 have pP:1048576 - (len:Int) < 0:=by omega
 go_enter Tryz.func24,Tryz.ntmps24
 go_wp2_with fail
 go_ret
 exact ⟨rfl,rfl⟩
theorem szBook_any (n:Int) (v:Value) (l:List Od) (w:World) (hr:RdR Od.vs 6 w v l) (hl:l.length ≤ 1048576) (hg:∀ c ∈ l,c.tag.size ≤ maxLen) :
  Calls Tryz.prog 6 #[.agg #[I n,v],I 1048576] w fun e w'=>∃ y:Int,e = .returned (I y)∧-1 ≤ y∧y ≤ 1048576∧yp w w':=by
 have HR:=H hr
 obtain ⟨a,cap,rfl,_,_⟩:=hr
 have HG:=H hg
 clear hg
 have HA:Hid (yp w (w.alloc (A #[I n,.slice a l.length cap] 24))):=gp _ _
 go_enter Tryz.func6,Tryz.ntmps6
 go_wp2_with fail
 refine (szOrderS_any _ l _ (zi (U HR) (U HA) yb) hl (U HG)).mono ?_
 rintro e w1 ⟨y,rfl,hy0,hy1,ul⟩
 have HB:=H (gu (U HA) ul)
 clear ul
 by_cases hy:y < 0
 ·go_wp2_with fail
  go_ret
  exact ⟨_,rfl,by omega,by omega,U HB⟩
 ·go_wp2_with fail
  go_ret
  exact ⟨_,rfl,by omega,by omega,U HB⟩
theorem szBook_long (n:Int) (a:Option Addr) (len cap:Nat) (w:World) (hl:1048576 < len) (hm:len ≤ maxLen) :
  Calls Tryz.prog 6 #[.agg #[I n,.slice a len cap],I 1048576] w fun e w'=>e = .returned (I (-1))∧yp w w':=by
 have HZ:=H (fun W=>szOrderS_long a len cap W hl hm)
 clear hl hm
 go_enter Tryz.func6,Tryz.ntmps6
 go_wp2_with fail
 refine (U HZ _).mono ?_
 rintro e w1 ⟨rfl,rfl⟩
 go_wp2_with fail
 go_ret
 exact ⟨rfl,by go_grown⟩
theorem toBook_any (n:Int) (v:Value) (l:List Od) (w:World) (hr:RdR Od.vs 6 w v l) :
  Calls Tryz.prog 9 #[.agg #[I n,v]] w fun e w'=>∃ v',e = .returned (.agg #[I n,v'])∧OwnR Od.vs 6 w.heap.size w' v' l∧yp w w':=by
 have HR:=H hr
 obtain ⟨a,cap,rfl,_,_⟩:=hr
 have xL:=zj w (A #[I n,.slice a l.length cap] 24)
 have ug:((w.alloc (A #[I n,.slice a l.length cap] 24)).alloc (A #[I 0,.slice none 0 0] 34)).heap.size = w.heap.size + 1 + 1:=by rw [zj,xL]
 have r1:=zo (w.alloc (A #[I n,.slice a l.length cap] 24)) [I 0,.slice none 0 0] 34
 have r2:=zo ((w.alloc (A #[I n,.slice a l.length cap] 24)).alloc (A #[I 0,.slice none 0 0] 34)) [I n,.slice none 0 0] 34
 have t1:=cM (n:=2) (heap_alloc_new (w.alloc (A #[I n,.slice a l.length cap] 24)) (A #[I 0,.slice none 0 0] 34)) (by simp)
 have t2:=cM (n:=2) (heap_alloc_new ((w.alloc (A #[I n,.slice a l.length cap] 24)).alloc (A #[I 0,.slice none 0 0] 34)) (A #[I n,.slice none 0 0] 34)) (by simp)
 rw [xL] at r1 t1
 rw [ug] at r2 t2
 have xX:Hid (yp w (((w.alloc (A #[I n,.slice a l.length cap] 24)).alloc (A #[I 0,.slice none 0 0] 34)).alloc (A #[I n,.slice none 0 0] 34))) :=
  ((gp _ _).alloc (by rw [xL]; omega) _).alloc (by rw [ug]; omega) _
 have jU:(((w.alloc (A #[I n,.slice a l.length cap] 24)).alloc (A #[I 0,.slice none 0 0] 34)).alloc (A #[I n,.slice none 0 0] 34)).heap.size = w.heap.size + 1 + 1 + 1:=by rw [zj,ug]
 have r1':=zc r1 (C:=w.heap.size + 1 + 1) (((Below.refl _ _).alloc (by rw [ug]; omega) (A #[I n,.slice none 0 0] 34))) (by omega)
 have t1':=zm t1 (C:=w.heap.size + 1 + 1) (((Below.refl _ _).alloc (by rw [ug]; omega) (A #[I n,.slice none 0 0] 34))) (by omega)
 have HX:Hid (_∧_∧_∧_):=⟨r1',t1',r2,t2⟩
 have vZ:=H jU
 clear r1 t1 r1' t1' r2 t2 xL ug jU
 go_enter Tryz.func9,Tryz.ntmps9
 go_wp2_with fail
 generalize hW3:(((w.alloc (A #[I n,.slice a l.length cap] 24)).alloc (A #[I 0,.slice none 0 0] 34)).alloc (A #[I n,.slice none 0 0] 34)) = W3 at xX HX vZ ⊢
 clear hW3
 refine (toOrderS_any _ l _ (zi (U HR) (U xX) yb)).mono ?_
 rintro e w1 ⟨v',rfl,Z,ul⟩
 have HO:=H Z
 have HB:=H ul
 obtain ⟨x1,x2,x3,x4⟩:=U HX
 have y1:=zc x1 ul (by rw [U vZ]; omega)
 have y2:=zm x2 ul (by rw [U vZ]; omega)
 have y3:=zc x3 ul (by rw [U vZ]; omega)
 have y4:=zm x4 ul (by rw [U vZ]; omega)
 have c0:w1.cell? (D (w.heap.size + 1) 0) = some (I 0):=y1 0 _ rfl
 have c1:w1.cell? (D (w.heap.size + 1) 1) = some (.slice none 0 0):=y1 1 _ rfl
 have c2:w1.cell? (D (w.heap.size + 1 + 1) 0) = some (I n):=y3 0 _ rfl
 have c3:w1.cell? (D (w.heap.size + 1 + 1) 1) = some (.slice none 0 0):=y3 1 _ rfl
 have f0:w1.frozen? (D (w.heap.size + 1) 0) = false:=(y2 0 (by omega)).2
 have f1:w1.frozen? (D (w.heap.size + 1) 1) = false:=(y2 1 (by omega)).2
 have f2:w1.frozen? (D (w.heap.size + 1 + 1) 0) = false:=(y4 0 (by omega)).2
 have f3:w1.frozen? (D (w.heap.size + 1 + 1) 1) = false:=(y4 1 (by omega)).2
 clear Z ul x1 x2 x3 x4 y1 y2 y3 y4
 obtain ⟨a',uE,rfl,pP,vO⟩:=U HO
 clear vO
 go_wp2_with fail
 have xA:((D (w.heap.size + 1) 0):Addr) ≠ (D (w.heap.size + 1) 1):=fun e=>by simp at e
 have hnb:∀ i j,((D (w.heap.size + 1 + 1) i):Addr) ≠ (D (w.heap.size + 1) j):=fun i j e=>by have:=congrArg Addr.block e; simp at this
 have d1:(((w1.setCell (D (w.heap.size + 1 + 1) 1) (.slice a' l.length uE)).setCell (D (w.heap.size + 1) 0) (I n)).setCell (D (w.heap.size + 1) 1) (.slice a' l.length uE)).cell? (D (w.heap.size + 1) 1) = some (.slice a' l.length uE) :=
  yN _ _ _ ((yM _ _ _ _ xA).trans ((yM _ _ _ _ (hnb 1 1)).trans c1))
 have d0:(((w1.setCell (D (w.heap.size + 1 + 1) 1) (.slice a' l.length uE)).setCell (D (w.heap.size + 1) 0) (I n)).setCell (D (w.heap.size + 1) 1) (.slice a' l.length uE)).cell? (D (w.heap.size + 1) 0) = some (I n) :=
  (yM _ _ _ _ xA.symm).trans (yN _ _ _ ((yM _ _ _ _ (hnb 1 0)).trans c0))
 have jy:=H (ownR_base (ownR_set (b:=w.heap.size + 1) (ownR_set (b:=w.heap.size + 1) (ownR_set (b:=w.heap.size + 1 + 1) (U HO) (by rw [U vZ]; omega) 1 (.slice a' l.length uE)) (by rw [U vZ]; omega) 0 (I n)) (by rw [U vZ]; omega) 1 (.slice a' l.length uE)) (B':=w.heap.size) (by rw [U vZ]; omega))
 have uk:=H (((((U xX).trans ((U HB).mono (U xX).size)).setCell (p:=(D (w.heap.size + 1 + 1) 1)) (by simp; omega) (.slice a' l.length uE)).setCell (p:=(D (w.heap.size + 1) 0)) (by simp) (I n)).setCell (p:=(D (w.heap.size + 1) 1)) (by simp) (.slice a' l.length uE))
 generalize (((w1.setCell (D (w.heap.size + 1 + 1) 1) (.slice a' l.length uE)).setCell (D (w.heap.size + 1) 0) (I n)).setCell (D (w.heap.size + 1) 1) (.slice a' l.length uE)) = W5 at *
 try simp only [Exit.inBlock,Exit.then]
 refine bodyPost_ret (by simp [results,Tryz.results9,go_sem,d0,d1]; try rfl) rfl ?_
 exact ⟨_,rfl,U jy,U uk⟩
theorem fw (n:Int) (va vb:Value) (l:List Od) (w:World) (ha:RdR Od.vs 6 w va l) (Q:RdR Od.vs 6 w vb l) :
  Calls Tryz.prog 13 #[.agg #[I n,va],.agg #[I n,vb]] w fun e w'=>e = .returned (.bool true)∧yp w w':=by
 have HA:=H ha
 have HB:=H Q
 obtain ⟨aa,ca,rfl,_,_⟩:=ha
 obtain ⟨ab,cb,rfl,_,_⟩:=Q
 have H0:Hid (yp w ((w.alloc (A #[I n,.slice aa l.length ca] 34)).alloc (A #[I n,.slice ab l.length cb] 34))):=(gp _ _).alloc (by rw [zj]; omega) _
 go_enter Tryz.func13,Tryz.ntmps13
 go_wp2_with fail
 refine (eqOrderS_same _ _ l _ (zi (U HA) (U H0) yb) (zi (U HB) (U H0) yb)).mono ?_
 rintro e w1 ⟨rfl,ul⟩
 have uf:=H (gu (U H0) ul)
 clear ul
 go_wp2_with fail
 go_ret
 exact ⟨rfl,U uf⟩
theorem toOrderS_nil (a:Option Addr) (cap:Nat) (w:World) :
  Calls Tryz.prog 29 #[.slice a 0 cap] w fun e w'=>∃ ad O,e = .returned (.slice (some ad) 0 O)∧yp w w':=by
 obtain ⟨i0,hi,uK,uL,uZ⟩:=info_parts Tryz.infoOrder
 go_enter Tryz.func29,Tryz.ntmps29
 go_wp2_with (at_make; go_must (refine wpList_make_full _ rfl _ _ 32 rfl w.heap.size 78 i0 _ 6 Tryz.underlying32 hi uK uL _ _ _ _ 0 rfl rfl rfl rfl (by rw [uZ]; omega) (by unfold maxLen; omega) yb ?_); intro w1 xS jG)
 have HB:=H ((Below.refl w.heap.size w).grown jG yb (fun k hk=>by cases hk))
 clear xS jG
 refine wp_loop_rounds 1 ?_
 rw [rounds_succ]
 go_wp2_with fail
 go_ret
 exact ⟨_,_,rfl,U HB⟩
theorem toBook_nil (n:Int) (a:Option Addr) (cap:Nat) (w:World) :
  Calls Tryz.prog 9 #[.agg #[I n,.slice a 0 cap]] w fun e w'=>∃ ad O,e = .returned (.agg #[I n,.slice (some ad) 0 O])∧yp w w':=by
 have xL:=zj w (A #[I n,.slice a 0 cap] 24)
 have ug:((w.alloc (A #[I n,.slice a 0 cap] 24)).alloc (A #[I 0,.slice none 0 0] 34)).heap.size = w.heap.size + 1 + 1:=by rw [zj,xL]
 have r1:=zo (w.alloc (A #[I n,.slice a 0 cap] 24)) [I 0,.slice none 0 0] 34
 have r2:=zo ((w.alloc (A #[I n,.slice a 0 cap] 24)).alloc (A #[I 0,.slice none 0 0] 34)) [I n,.slice none 0 0] 34
 have t1:=cM (n:=2) (heap_alloc_new (w.alloc (A #[I n,.slice a 0 cap] 24)) (A #[I 0,.slice none 0 0] 34)) (by simp)
 have t2:=cM (n:=2) (heap_alloc_new ((w.alloc (A #[I n,.slice a 0 cap] 24)).alloc (A #[I 0,.slice none 0 0] 34)) (A #[I n,.slice none 0 0] 34)) (by simp)
 rw [xL] at r1 t1
 rw [ug] at r2 t2
 have xX:Hid (yp w (((w.alloc (A #[I n,.slice a 0 cap] 24)).alloc (A #[I 0,.slice none 0 0] 34)).alloc (A #[I n,.slice none 0 0] 34))) :=
  ((gp _ _).alloc (by rw [xL]; omega) _).alloc (by rw [ug]; omega) _
 have jU:(((w.alloc (A #[I n,.slice a 0 cap] 24)).alloc (A #[I 0,.slice none 0 0] 34)).alloc (A #[I n,.slice none 0 0] 34)).heap.size = w.heap.size + 1 + 1 + 1:=by rw [zj,ug]
 have r1':=zc r1 (C:=w.heap.size + 1 + 1) (((Below.refl _ _).alloc (by rw [ug]; omega) (A #[I n,.slice none 0 0] 34))) (by omega)
 have t1':=zm t1 (C:=w.heap.size + 1 + 1) (((Below.refl _ _).alloc (by rw [ug]; omega) (A #[I n,.slice none 0 0] 34))) (by omega)
 have HX:Hid (_∧_∧_∧_):=⟨r1',t1',r2,t2⟩
 have vZ:=H jU
 clear r1 t1 r1' t1' r2 t2 xL ug jU
 go_enter Tryz.func9,Tryz.ntmps9
 go_wp2_with fail
 generalize hW3:(((w.alloc (A #[I n,.slice a 0 cap] 24)).alloc (A #[I 0,.slice none 0 0] 34)).alloc (A #[I n,.slice none 0 0] 34)) = W3 at xX HX vZ ⊢
 clear hW3
 refine (toOrderS_nil a cap _).mono ?_
 rintro e w1 ⟨ad',uE,rfl,ul⟩
 have HB:=H ul
 obtain ⟨x1,x2,x3,x4⟩:=U HX
 have y1:=zc x1 ul (by rw [U vZ]; omega)
 have y2:=zm x2 ul (by rw [U vZ]; omega)
 have y3:=zc x3 ul (by rw [U vZ]; omega)
 have y4:=zm x4 ul (by rw [U vZ]; omega)
 have c0:w1.cell? (D (w.heap.size + 1) 0) = some (I 0):=y1 0 _ rfl
 have c1:w1.cell? (D (w.heap.size + 1) 1) = some (.slice none 0 0):=y1 1 _ rfl
 have c2:w1.cell? (D (w.heap.size + 1 + 1) 0) = some (I n):=y3 0 _ rfl
 have c3:w1.cell? (D (w.heap.size + 1 + 1) 1) = some (.slice none 0 0):=y3 1 _ rfl
 have f0:w1.frozen? (D (w.heap.size + 1) 0) = false:=(y2 0 (by omega)).2
 have f1:w1.frozen? (D (w.heap.size + 1) 1) = false:=(y2 1 (by omega)).2
 have f2:w1.frozen? (D (w.heap.size + 1 + 1) 0) = false:=(y4 0 (by omega)).2
 have f3:w1.frozen? (D (w.heap.size + 1 + 1) 1) = false:=(y4 1 (by omega)).2
 clear ul x1 x2 x3 x4 y1 y2 y3 y4
 go_wp2_with fail
 have xA:((D (w.heap.size + 1) 0):Addr) ≠ (D (w.heap.size + 1) 1):=fun e=>by simp at e
 have hnb:∀ i j,((D (w.heap.size + 1 + 1) i):Addr) ≠ (D (w.heap.size + 1) j):=fun i j e=>by have:=congrArg Addr.block e; simp at this
 have d1:(((w1.setCell (D (w.heap.size + 1 + 1) 1) (.slice (some ad') 0 uE)).setCell (D (w.heap.size + 1) 0) (I n)).setCell (D (w.heap.size + 1) 1) (.slice (some ad') 0 uE)).cell? (D (w.heap.size + 1) 1) = some (.slice (some ad') 0 uE) :=
  yN _ _ _ ((yM _ _ _ _ xA).trans ((yM _ _ _ _ (hnb 1 1)).trans c1))
 have d0:(((w1.setCell (D (w.heap.size + 1 + 1) 1) (.slice (some ad') 0 uE)).setCell (D (w.heap.size + 1) 0) (I n)).setCell (D (w.heap.size + 1) 1) (.slice (some ad') 0 uE)).cell? (D (w.heap.size + 1) 0) = some (I n) :=
  (yM _ _ _ _ xA.symm).trans (yN _ _ _ ((yM _ _ _ _ (hnb 1 0)).trans c0))
 have uk:=H (((((U xX).trans ((U HB).mono (U xX).size)).setCell (p:=(D (w.heap.size + 1 + 1) 1)) (by simp; omega) (.slice (some ad') 0 uE)).setCell (p:=(D (w.heap.size + 1) 0)) (by simp) (I n)).setCell (p:=(D (w.heap.size + 1) 1)) (by simp) (.slice (some ad') 0 uE))
 generalize (((w1.setCell (D (w.heap.size + 1 + 1) 1) (.slice (some ad') 0 uE)).setCell (D (w.heap.size + 1) 0) (I n)).setCell (D (w.heap.size + 1) 1) (.slice (some ad') 0 uE)) = W5 at *
 try simp only [Exit.inBlock,Exit.then]
 refine bodyPost_ret (by simp [results,Tryz.results9,go_sem,d0,d1]; try rfl) rfl ?_
 exact ⟨ad',uE,rfl,U uk⟩
theorem fD (n:Int) (v:Value) (l:List Od) (w:World) (hr:RdR Od.vs 6 w v l) :
  Calls Tryz.prog 9 #[.agg #[I n,v]] w fun e w'=>∃ ad O,e = .returned (.agg #[I n,.slice (some ad) l.length O])∧OwnR Od.vs 6 w.heap.size w' (.slice (some ad) l.length O) l∧yp w w':=by
 by_cases hl:l = []
 ·subst hl
  obtain ⟨a,cap,rfl,_,_⟩:=hr
  refine (toBook_nil n a cap w).mono ?_
  rintro e w' ⟨ad,O,rfl,Q⟩
  exact ⟨ad,O,rfl,⟨some ad,O,rfl,by simp,fun h=>absurd rfl h⟩,Q⟩
 ·refine (toBook_any n v l w hr).mono ?_
  rintro e w' ⟨v',rfl,Z,Q⟩
  have HO:=Z
  obtain ⟨a,cap,rfl,_,h⟩:=Z
  obtain ⟨g,rfl,_⟩:=h hl
  exact ⟨_,_,rfl,HO,Q⟩
end Go.Proofs.YtnphbkgfjanmgaaGreatDoor
namespace Go.Proofs.YtnphbkgfjanmgaaGreatDoor
open Go.RowKit Go.ChangeShapes Go.WideShapes Go.Deep
set_option linter.unusedVariables false

structure Od.ok (c:Od):Prop where
 id:(Lit.int .i64 c.id).wf = true
 side:(Lit.int .i64 c.side).wf = true
 ticks:(Lit.int .i64 c.ticks).wf = true
 left:(Lit.int .i64 c.left).wf = true
 life:(Lit.int .i64 c.life).wf = true
 tag:c.tag.size ≤ maxLen
section
variable {yd:Type} {enc:TypeId × Value→yd} {w:World} {base:Nat} {spare:Nat→Bool} {held:Bool}

theorem list6 {L:List Value} (h:L.length = 6):∃ v0 v1 v2 v3 v4 v5,L = [v0,v1,v2,v3,v4,v5] :=
 match L,h with
 | [v0,v1,v2,v3,v4,v5],_=>⟨v0,v1,v2,v3,v4,v5,rfl⟩
theorem od_opened {fuel:Nat} {L:List Value} {x:DataW yd × List MemPlace} (h:DataW.trod enc Tryz.prog w base spare held fuel 91 L = some x):∃ c:Od,L = c.vs∧c.ok:=by
 obtain ⟨xs,n,_,_,xz,hxl,hf⟩:=DataW.trod_struct Tryz.underlying91 h
 have hl6:L.length = 6:=xz.trans (by kernel_rfl)
 have k3:Tryz.prog.cellsOf 3 = 1:=by kernel_rfl
 have k9:Tryz.prog.cellsOf 9 = 1:=by kernel_rfl
 have hx:∀ i,i < 6→∃ y,xs[i]? = some y:=fun i hi=>⟨_,yI (by rw [hxl]; exact hi)⟩
 obtain ⟨y0,e0⟩:=hx 0 (by omega)
 obtain ⟨y1,e1⟩:=hx 1 (by omega)
 obtain ⟨y2,e2⟩:=hx 2 (by omega)
 obtain ⟨y3,e3⟩:=hx 3 (by omega)
 obtain ⟨y4,e4⟩:=hx 4 (by omega)
 obtain ⟨y5,e5⟩:=hx 5 (by omega)
 have f0:DataW.trod enc Tryz.prog w base spare held n 3 ((L.drop 0).take (Tryz.prog.cellsOf 3)) = some y0:=(hf 0 _ rfl).trans e0
 have f1:DataW.trod enc Tryz.prog w base spare held n 3 ((L.drop 1).take (Tryz.prog.cellsOf 3)) = some y1:=(hf 1 _ rfl).trans e1
 have f2:DataW.trod enc Tryz.prog w base spare held n 3 ((L.drop 2).take (Tryz.prog.cellsOf 3)) = some y2:=(hf 2 _ rfl).trans e2
 have f3:DataW.trod enc Tryz.prog w base spare held n 3 ((L.drop 3).take (Tryz.prog.cellsOf 3)) = some y3:=(hf 3 _ rfl).trans e3
 have f4:DataW.trod enc Tryz.prog w base spare held n 3 ((L.drop 4).take (Tryz.prog.cellsOf 3)) = some y4:=(hf 4 _ rfl).trans e4
 have f5:DataW.trod enc Tryz.prog w base spare held n 9 ((L.drop 5).take (Tryz.prog.cellsOf 9)) = some y5:=(hf 5 _ rfl).trans e5
 clear hf hx e0 e1 e2 e3 e4 e5 h xz
 obtain ⟨v0,v1,v2,v3,v4,v5,rfl⟩:=list6 hl6
 clear hl6
 simp only [k3,k9,List.drop_zero,yV,yU,List.take_zero] at f0 f1 f2 f3 f4 f5
 obtain ⟨n0,c0,_,b0⟩:=DataW.trod_int Tryz.underlying3 f0
 obtain ⟨n1,c1,_,b1⟩:=DataW.trod_int Tryz.underlying3 f1
 obtain ⟨n2,c2,_,b2⟩:=DataW.trod_int Tryz.underlying3 f2
 obtain ⟨n3,c3,_,b3⟩:=DataW.trod_int Tryz.underlying3 f3
 obtain ⟨n4,c4,_,b4⟩:=DataW.trod_int Tryz.underlying3 f4
 obtain ⟨n5,c5,_,b5⟩:=DataW.trod_string Tryz.underlying9 f5
 simp only [List.cons.injEq,and_true] at c0 c1 c2 c3 c4 c5
 subst c0 c1 c2 c3 c4 c5
 exact ⟨⟨n0,n1,n2,n3,n4,n5⟩,rfl,⟨b0,b1,b2,b3,b4,b5⟩⟩
def IsOrders (w:World) (a:Option Addr) (len cap:Nat):Prop :=
 len ≤ maxLen∧(len ≤ 1073741824→∃ l:List Od,l.length = len∧RdR Od.vs 6 w (.slice a len cap) l∧∀ c ∈ l,c.ok)
theorem orders_opened {fuel:Nat} {L:List Value} {x:DataW yd × List MemPlace} (h:DataW.trod enc Tryz.prog w base spare held fuel 22 L = some x):∃ a len cap,L = [.slice a len cap]∧IsOrders w a len cap:=by
 rcases open_slice Tryz.underlying22 h with ⟨kI,_⟩ | ⟨ad,len,cap,m,n,ya,Pl,kI,_,hl,hm,hmm,_,hel⟩
 ·exact ⟨none,0,0,kI,Nat.zero_le _,fun _=>⟨[],rfl,⟨none,0,rfl,by simp,fun h=>absurd rfl h⟩,by simp⟩⟩
 ·refine ⟨some ad,len,cap,kI,?_⟩
  have k37:Tryz.prog.cellsOf 91 = 6:=by kernel_rfl
  rw [k37] at hel
  have hlm:len ≤ m:=by rw [hmm]; split <;> omega
  refine ⟨by omega,fun Q=>?_⟩
  have hc:∀ i,i < len→∃ c:Od,c.ok∧∀ j v,c.vs[j]? = some v→w.cell? (ad.add (i * 6 + j)) = some v:=by
   intro i hi
   obtain ⟨cs',N,Y⟩:=hel i (by omega)
   obtain ⟨c,rfl,vr⟩:=od_opened Y
   obtain ⟨_,_,xr⟩:=World.cells?_some N
   refine ⟨c,vr,fun j v hv=>?_⟩
   have:=xr j (yH.1 hv).1
   rw [add_add] at this
   rw [this,hv]
  have xC:0 < len→∃ b off,ad = (D b off)∧b < w.heap.size:=by
   intro hp
   obtain ⟨c,_,h0⟩:=hc 0 hp
   have h0:=h0 0 _ rfl
   obtain ⟨b,off,spot⟩:=ad
   have hspot:spot = none:=by simpa [Addr.add] using World.cell?_spot h0
   subst hspot
   exact ⟨b,off,rfl,by have:=yL w _ h0; simpa [Addr.add] using this⟩
  haveI:Inhabited Od:=⟨zOd⟩
  obtain ⟨xo,hF⟩:=choose_lt hc
  have hget:∀ i c,((List.range len).map xo)[i]? = some c→i < len∧c = xo i:=by
   intro i c hi
   have xI:i < len:=by simpa using (yH.1 hi).1
   refine ⟨xI,?_⟩
   rw [List.getElem?_map,List.getElem?_range xI] at hi
   simpa using hi.symm
  refine ⟨(List.range len).map xo,by simp,⟨some ad,cap,by simp,by simpa using Q,fun xA=>?_⟩,fun c hcm=>?_⟩
  ·have hp:0 < len:=by
    rcases Nat.eq_zero_or_pos len with h0 | h0
    ·subst h0; simp at xA
    ·exact h0
   obtain ⟨b,off,rfl,xI⟩:=xC hp
   refine ⟨b,off,rfl,xI,fun i c hi j v hv=>?_⟩
   obtain ⟨vE,rfl⟩:=hget i c hi
   have:=(hF i vE).2 j v hv
   rw [Addr.add_mid] at this
   rw [Nat.add_assoc]; exact this
  ·obtain ⟨i,hi⟩:=List.mem_iff_getElem?.1 hcm
   obtain ⟨vE,rfl⟩:=hget i c hi
   exact (hF i vE).1
theorem list_two {L:List Value} (h:L.length = 2):∃ v0 v1,L = [v0,v1]:=match L,h with
 | [v0,v1],_=>⟨v0,v1,rfl⟩
theorem book_opened {fuel:Nat} {L:List Value} {x:DataW yd × List MemPlace} (h:DataW.trod enc Tryz.prog w base spare held fuel 24 L = some x):∃ n a len cap,L = [I n,.slice a len cap]∧(Lit.int .i64 n).wf = true∧IsOrders w a len cap:=by
 obtain ⟨xs,k,_,_,xz,hxl,hf⟩:=DataW.trod_struct Tryz.underlying24 h
 have hl2:L.length = 2:=xz.trans (by kernel_rfl)
 have k3:Tryz.prog.cellsOf 3 = 1:=by kernel_rfl
 have k9:Tryz.prog.cellsOf 22 = 1:=by kernel_rfl
 have hx:∀ i,i < 2→∃ y,xs[i]? = some y:=fun i hi=>⟨_,yI (by rw [hxl]; exact hi)⟩
 obtain ⟨y0,e0⟩:=hx 0 (by omega)
 obtain ⟨y1,e1⟩:=hx 1 (by omega)
 have f0:DataW.trod enc Tryz.prog w base spare held k 3 ((L.drop 0).take (Tryz.prog.cellsOf 3)) = some y0:=(hf 0 _ rfl).trans e0
 have f1:DataW.trod enc Tryz.prog w base spare held k 22 ((L.drop 1).take (Tryz.prog.cellsOf 22)) = some y1:=(hf 1 _ rfl).trans e1
 obtain ⟨v0,v1,rfl⟩:=list_two hl2
 simp only [k3,k9,List.drop_zero,yV,yU,List.take_zero] at f0 f1
 obtain ⟨n,c0,_,b0⟩:=DataW.trod_int Tryz.underlying3 f0
 obtain ⟨a,len,cap,c1,Z⟩:=orders_opened f1
 simp only [List.cons.injEq,and_true] at c0 c1
 subst c0 c1
 exact ⟨n,a,len,cap,rfl,b0,Z⟩
end
end Go.Proofs.YtnphbkgfjanmgaaGreatDoor
