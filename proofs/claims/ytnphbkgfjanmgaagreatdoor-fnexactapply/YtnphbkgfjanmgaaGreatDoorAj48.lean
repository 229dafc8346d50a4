/-
  A row of orders marked, and the marks found: proved by walking the laws' own helpers.
-/
import Derived.Test.YtnphbkgfjanmgaaGreatDoorAj46
set_option linter.unusedVariables false
set_option maxHeartbeats 6400000
set_option maxRecDepth 100000
namespace Go.Proofs.YtnphbkgfjanmgaaGreatDoor
open Go.RowKit
def markO (k:Nat):Od:=⟨k,(k:Int) + 1,(k:Int) + 1 + 1,(k:Int) + 1 + 1 + 1,(k:Int) + 1 + 1 + 1 + 1,markS (k + 5)⟩
def mark5 (k:Nat):List Value:=[I (k:Int),I ((k:Int) + 1),I ((k:Int) + 1 + 1),I ((k:Int) + 1 + 1 + 1),I ((k:Int) + 1 + 1 + 1 + 1)]
def cd (k n:Nat):List Od:=(List.range n).map fun i=>markO (k + 6 * i)
theorem dK (k n:Nat):(cd k n).length = n:=by simp [cd]
theorem marksO_more (k n:Nat):cd k (n + 1) = cd k n ++ [markO (k + 6 * n)]:=by simp [cd,List.range_succ]
theorem marksO_get {k n i:Nat} (h:i < n):(cd k n)[i]? = some (markO (k + 6 * i)):=by simp [cd,h]
theorem markOrderS_any (g len cap k:Nat) (w:World) (hl:len ≤ 2097152) (jQ:0 < k) (ps:k ≤ 1000000000) (hg:g < w.heap.size) (ht:w.there g 0 (len * 6)) :
  Calls Tryz.prog 43 #[.slice (some (D g 0)) len cap,I k] w fun e w'=>e = yn (I ((k + 6 * len:Nat):Int))∧MarkR Od.vs 6 len g w w' (cd k len):=by
 have HM:Hid (MarkR Od.vs 6 len g w w (cd k 0)):=⟨by simp [cd],ht,yS _ _,by simp [cd],hg⟩
 clear ht
 go_enter Tryz.func43,Tryz.ntmps43
 go_wp2_with fail
 go_loopw [1,5] (fun kv i wr=>∃ m kk:Nat,m ≤ len∧i = I m∧kv = I kk∧Hid (kk = k + 6 * m)∧MarkR Od.vs 6 len g w wr (cd k m)) (fun _ i _=>len - (intOf i).toNat)
 case atStart=>exact ⟨0,k,Nat.zero_le _,rfl,rfl,rfl,U HM⟩
 case round =>
  obtain ⟨m,kk,hm,rfl,rfl,kw,hmr⟩:=hrel
  have HR:=H hmr
  have hkb:(kk:Int) ≤ 1020000000:=by have:=U kw; omega
  clear hmr HM
  by_cases xI:m < len
  ·obtain ⟨⟨x0,y0,z0⟩,⟨x1,y1,z1⟩,⟨x2,y2,z2⟩,⟨x3,y3,z3⟩,⟨x4,y4,z4⟩,x5,y5,z5⟩:=there6 (dL (i:=m * 6) (m:=6) (U HR).2.1 (by omega))
   have uF:(m:Int) < len:=by omega
   go_wp2_with fail
   refine (fX _ (kk + 5) _ (by omega) (by omega) (by omega)).mono ?_
   rintro e W2 ⟨rfl,Q⟩
   have oW:Below (wr.setCells g (m * 6) (mark5 kk)).heap.size (wr.setCells g (m * 6) (mark5 kk)) W2:=Q
   have T2:=zm (xc (U HR).2.1 g (m * 6) (mark5 kk)) oW (by rw [zM]; exact (U HR).2.2.2.2)
   obtain ⟨v7,c7,f7⟩:=cO (dL (i:=m * 6 + 5) (m:=1) T2 (by omega)) 0 (by omega)
   have HB:=H oW
   clear Q oW T2 y0 z0 y1 z1 y2 z2 y3 z3 y4 z4 y5 z5
   rw [Nat.add_zero] at c7 f7
   go_wp2_with fail
   go_roundw
   case rel =>
    refine ⟨m + 1,kk + 6,by omega,by go_num,congrArg (I) (by omega),by have:=U kw; show kk + 6 = _; omega,?_⟩
    have h:=mark_stepR (markO kk) (mark5 kk) (yl (markS (kk + 5))) rfl (U HR) (by rw [dK]; exact xI) Od.len (by rw [dK]; exact U HB) (by rw [zM]; exact Nat.le_refl _)
    rw [dK,U kw,← marksO_more,← U kw] at h
    exact h
   case measure=>simp [intOf]; omega
  ·go_wp2_with fail
   go_ret
   obtain rfl:m = len:=by omega
   have h:=U kw
   subst h
   exact ⟨rfl,U HR⟩
theorem heldOrderS_any (v:Value) (len k:Nat) (w:World) (hl:len ≤ 2097152) (jQ:0 < k) (ps:k ≤ 1000000000) (hr:RdR Od.vs 6 w v (cd k len)) :
  Calls Tryz.prog 45 #[v,I k] w fun e w'=>e = yn (I ((k + 6 * len:Nat):Int))∧yp w w':=by
 obtain ⟨a,cap,rfl,_,hc⟩:=hr
 rw [dK]
 have xr:∀ (m:Nat),m < len→∃ b off,a = some (D b off)∧b < w.heap.size∧w.rangeAt b (off + m * 6) (markO (k + 6 * m)).vs:=by
  intro m hm
  have hg:=marksO_get (k:=k) hm
  obtain ⟨b,off,N,Y,h3⟩:=hc (by intro h; rw [h] at hg; simp at hg)
  exact ⟨b,off,N,Y,h3 m _ hg⟩
 have HC:=H xr
 clear xr hc
 go_enter Tryz.func45,Tryz.ntmps45
 go_wp2_with fail
 go_loopw [1,5] (fun kv i wr=>∃ m kk:Nat,m ≤ len∧i = I m∧kv = I kk∧Hid (kk = k + 6 * m)∧yp w wr) (fun _ i _=>len - (intOf i).toNat)
 case atStart=>exact ⟨0,k,Nat.zero_le _,rfl,rfl,rfl,Below.refl _ _⟩
 case round =>
  obtain ⟨m,kk,hm,rfl,rfl,kw,xl⟩:=hrel
  have HB:=H xl
  have hkb:(kk:Int) ≤ 1020000000:=by have:=U kw; omega
  clear xl
  by_cases xI:m < len
  ·obtain ⟨b,off,rfl,Q,F⟩:=U HC m xI
   rw [← U kw] at F
   obtain ⟨g0,g1,g2,g3,g4,g5⟩:=zB (zc F (U HB) Q)
   simp only [markO] at g0 g1 g2 g3 g4 g5
   have uC:=H g5
   have uF:(m:Int) < len:=by omega
   have kr:Hid (b < wr.heap.size):=yK Q (U HB).size
   clear F Q
   go_wp2_with fail
   go_region_with (go_at_call 44; refine (fX _ (kk + 5) _ (by omega) (by omega) (by omega)).mono ?_; rintro e W2 ⟨rfl,xK⟩; have c7:=(xK.cell (p:=(D b (off + m * 6 + 5))) (U kr)).trans (U uC); have xw:=H ((U HB).drew.trans (xK.mono (U HB).drew.size)); clear xK)
   all_goals go_wp2_with fail
   all_goals
    exact ⟨⟨m + 1,kk + 6,by omega,by go_num,congrArg (I) (by omega),by have:=U kw; show kk + 6 = _; omega,U xw⟩,by simp [intOf]; omega⟩
  ·go_wp2_with fail
   go_ret
   obtain rfl:m = len:=by omega
   have h:=U kw
   subst h
   exact ⟨rfl,U HB⟩
theorem markOrderS_nil (a:Option Addr) (cap k:Nat) (w:World) :
  Calls Tryz.prog 43 #[.slice a 0 cap,I k] w fun e w'=>e = yn (I k)∧w' = w:=by
 go_enter Tryz.func43,Tryz.ntmps43
 go_wp2
 refine wp_loop_rounds 1 ?_
 rw [rounds_succ]
 go_wp2
 go_ret
 exact ⟨rfl,rfl⟩
theorem markO_own {B:Nat} (v:Value) (l:List Od) (w:World) (h:OwnR Od.vs 6 B w v l) (hl:l.length ≤ 2097152) :
  Calls Tryz.prog 43 #[v,I 1] w fun e w'=>e = yn (I ((1 + 6 * l.length:Nat):Int))∧OwnR Od.vs 6 B w' v (cd 1 l.length) ∧
   ∃ G,w.grownBy w' G∧∀ g,G = some g→v.ownBlock = some g∧B ≤ g∧l ≠ []:=by
 obtain ⟨a,cap,rfl,xz,h⟩:=h
 by_cases xA:l = []
 ·subst xA
  refine (markOrderS_nil a cap 1 w).mono ?_
  rintro e w' ⟨rfl,rfl⟩
  exact ⟨rfl,⟨a,cap,rfl,by simp [cd],fun h=>absurd rfl h⟩,none,yS _ _,fun g hg=>by cases hg⟩
 ·obtain ⟨g,rfl,h0,N,Y,h3⟩:=h xA
  refine (markOrderS_any g l.length cap 1 w hl (by omega) (by omega) N h3).mono ?_
  rintro e w' ⟨rfl,m1,m2,m3,m4,m5⟩
  refine ⟨rfl,⟨_,cap,by rw [dK],by rw [dK]; exact xz,fun _=>⟨g,rfl,h0,m5,m1,by rw [dK]; exact m2⟩⟩,some g,m3,fun g' hg=>?_⟩
  obtain rfl:=Option.some.inj hg
  exact ⟨rfl,h0,xA⟩
theorem gk {B:Nat} (n:Int) (v:Value) (l:List Od) (w:World) (h:OwnR Od.vs 6 B w v l) (hl:l.length ≤ 2097152) :
  Calls Tryz.prog 21 #[.agg #[I n,v],I 1] w fun e w'=>e = yn (I ((1 + 6 * l.length:Nat):Int))∧OwnR Od.vs 6 B w' v (cd 1 l.length) ∧
   ∃ G,w.grownBy w' G∧∀ g,G = some g→v.ownBlock = some g∧B ≤ g∧l ≠ []:=by
 have yd:=H h
 obtain ⟨a,cap,rfl,_,_⟩:=h
 have HO:Hid (OwnR Od.vs 6 B (w.alloc (A #[I n,.slice a l.length cap] 34)) (.slice a l.length cap) l):=zr (U yd) (gp _ _) yb
 go_enter Tryz.func21,Tryz.ntmps21
 go_wp2_with fail
 refine (markO_own _ l _ (U HO) hl).mono ?_
 rintro e w1 ⟨rfl,Z,G,um,hG⟩
 have HG:Hid (w.grownBy w1 G∧∀ g,G = some g→(Value.slice a l.length cap).ownBlock = some g∧B ≤ g∧l ≠ []):=⟨(World.grownBy_alloc w _ G).trans um,hG⟩
 have HM:=H Z
 clear um hG Z
 go_wp2_with fail
 go_ret
 exact ⟨rfl,U HM,G,(U HG).1,(U HG).2⟩
theorem heldBook_any (n:Int) (v:Value) (len k:Nat) (w:World) (hl:len ≤ 2097152) (jQ:0 < k) (ps:k ≤ 1000000000) (hr:RdR Od.vs 6 w v (cd k len)) :
  Calls Tryz.prog 23 #[.agg #[I n,v],I k] w fun e w'=>e = yn (I ((k + 6 * len:Nat):Int))∧yp w w':=by
 have HA:Hid (RdR Od.vs 6 (w.alloc (A #[I n,v] 34)) v (cd k len)):=by
  obtain ⟨a,cap,rfl,N,Y⟩:=hr
  refine ⟨a,cap,rfl,N,fun xA=>?_⟩
  obtain ⟨b,off,e1,Q,hc⟩:=Y xA
  exact ⟨b,off,e1,yK Q (by rw [zj]; omega),fun i c hi=>zc (hc i c hi) (gp _ _) Q⟩
 have HB:Hid (yp w (w.alloc (A #[I n,v] 34))):=gp _ _
 obtain ⟨a,cap,rfl,_,_⟩:=hr
 rw [dK] at *
 have hneg:¬ (((k + 6 * len:Nat):Int) < 0):=by omega
 go_enter Tryz.func23,Tryz.ntmps23
 go_wp2_with fail
 refine (heldOrderS_any _ len k _ hl jQ ps (U HA)).mono ?_
 rintro e w2 ⟨rfl,xK⟩
 have xw:=H (gu (U HB) xK)
 clear xK
 generalize kw:((k + 6 * len:Nat):Int) = kk at hneg ⊢
 have HK:=H kw
 clear kw
 go_wp2_with fail
 go_ret
 exact ⟨by rw [U HK]; rfl,U xw⟩
end Go.Proofs.YtnphbkgfjanmgaaGreatDoor
