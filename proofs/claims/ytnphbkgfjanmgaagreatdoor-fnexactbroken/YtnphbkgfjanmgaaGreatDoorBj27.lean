/-
  What the reading of an event at a place answers, proved by walking it: the program's DecodeEvent.
-/
import Derived.Test.YtnphbkgfjanmgaaGreatDoorBj26
set_option linter.unusedVariables false
set_option maxHeartbeats 6400000
set_option maxRecDepth 100000
namespace Go.Proofs.YtnphbkgfjanmgaaGreatDoor
open Go.RowKit
theorem readE_any (v:Value) (l:List Int) (at_:Int) (w:World) (xN:Rd w v l) (uq:CapOk v) (Y:Bts l) (hE:ErrT w) :
  Calls Tryz.prog 121 #[v,I at_,.func (.func 122) #[] #[]] w fun e w'=>e = .returned (tupE (evR l at_).1 (evR l at_).2)∧yn w w':=by
 obtain ⟨a,cap,hv⟩:=rd_len xN
 by_cases Q:65536 < l.length
 ·rw [evR_long Q]
  refine fi v l.length a cap hv at_ 2 w hE fun w0 hw0=>?_
  subst hw0
  have hr:=(rdE_box w v at_).2.1
  subst hv
  exact tryE_check (w.heap.size + 1) a l.length cap at_ 2 _ hr fun w0 h=>check_long _ at_ a l.length cap w0 h Q
 by_cases E:at_ < 0 ∨ (l.length:Int) < at_
 ·rw [evR_out Q E]
  refine fi v l.length a cap hv at_ 5 w hE fun w0 hw0=>?_
  subst hw0
  have hr:=(rdE_box w v at_).2.1
  subst hv
  exact tryE_check (w.heap.size + 1) a l.length cap at_ 5 _ hr fun w0 h=>check_out _ at_ a l.length cap w0 h E (by omega)
 obtain ⟨k,rfl⟩:=Int.eq_ofNat_of_zero_le (show 0 ≤ at_ by omega)
 have hk:k ≤ l.length:=by omega
 obtain ⟨_,hr,xk,hz⟩:=rdE_box w v (k:Int)
 have hev:∀ w0,Below (w.heap.size + 2) ((w.alloc (A (yv 0 0 0 0 0 0 0 0 ⟨#[]⟩ 0 0 0 0 0).toArray 52)).alloc (A #[v,I (k:Int)] 182)) w0→Calls Tryz.prog 122 #[.pointer (some ⟨w.heap.size + 1,0,none⟩)] w0 fun e w'=>EvEnd (w.heap.size + 1) v w0 (evA l k) e w':=fun w0 xz =>
  event_any w (w.heap.size + 1) v l k w0 ⟨xN,uq,Nat.le_succ _,xk.trans (xz.mono (by omega)),dT hr xz (by omega),hk,by omega,Y⟩
 cases hg:evA l k with
 | none =>
  rw [evR_none Q hk hg]
  refine fi v l.length a cap hv k 3 w hE fun w0 hw0=>?_
  subst hw0
  rw [hg] at hev
  subst hv
  exact tryE_fail (w.heap.size + 1) a l.length cap k 3 _ hr (by omega) (by omega) (by omega) fun w0 h=>(hev w0 (by rw [hz] at h; exact h)).mono fun e w' h=>⟨h.1,h.2.2 rfl⟩
 | some r =>
  obtain ⟨x,n⟩:=r
  rw [evR_some Q hk hg]
  refine readE_fine v l.length a cap hv k x n w fun w0 hw0=>?_
  subst hw0
  rw [hg] at hev
  subst hv
  exact tryE_ok (w.heap.size + 1) a l.length cap k x n _ hr (by omega) (by omega) (by omega) fun w0 h=>(hev w0 (by rw [hz] at h; exact h)).mono fun e w' h=>⟨h.1,(h.2.1 x n rfl).1,(h.2.1 x n rfl).2⟩
theorem implDecode_any (v:Value) (l:List Int) (at_:Int) (w:World) (xN:Rd w v l) (uq:CapOk v) (Y:Bts l) (hE:ErrT w) :
  Calls Tryz.prog 70 #[v,I at_] w fun e w'=>e = .returned (tupE (evR l at_).1 (evR l at_).2)∧yn w w':=by
 have hsf:=sfl
 have qA:=fE w (A (yv 0 0 0 0 0 0 0 0 ⟨#[]⟩ 0 0 0 0 0).toArray 52)
 have HR:=M (readE_any v l at_ _ (rd_below xN qA ya) uq Y (cx hE qA ya))
 have HB:=M qA
 have HX:Hid (Bx (w.alloc (A (yv 0 0 0 0 0 0 0 0 ⟨#[]⟩ 0 0 0 0 0).toArray 52)) w.heap.size (yv 0 0 0 0 0 0 0 0 ⟨#[]⟩ 0 0 0 0 0)):=zq w (yv 0 0 0 0 0 0 0 0 ⟨#[]⟩ 0 0 0 0 0) 52
 have HZ:Hid ((w.alloc (A (yv 0 0 0 0 0 0 0 0 ⟨#[]⟩ 0 0 0 0 0).toArray 52)).heap.size = w.heap.size + 1):=by show _ = _; simp
 obtain ⟨a,cap,rfl⟩:=rd_len xN
 clear xN uq Y hE qA
 generalize evR l at_ = r at *
 obtain ⟨⟨xm,⟨ck,L,ct,F,cq,ci,X,cg⟩,id,xi,qty,xj,xh⟩,r2,r3⟩:=r
 go_enter Tryz.func70,Tryz.ntmps70
 go_wp2_with fail
 generalize (w.alloc (A (yv 0 0 0 0 0 0 0 0 ⟨#[]⟩ 0 0 0 0 0).toArray 52)) = W0 at HR HB HX HZ ⊢
 refine (H HR).mono ?_
 rintro e W1 ⟨rfl,ui⟩
 have hX:=zg (H HX) ui (by rw [H HZ]; omega)
 have qH:=M hX
 have ud:=M (fH (H HB) ui)
 have z0:=R hX 0 rfl
 have f0:=zd hX 0 (by decide)
 have z1:=R hX 1 rfl
 have f1:=zd hX 1 (by decide)
 have z2:=R hX 2 rfl
 have f2:=zd hX 2 (by decide)
 have z3:=R hX 3 rfl
 have f3:=zd hX 3 (by decide)
 have z4:=R hX 4 rfl
 have f4:=zd hX 4 (by decide)
 have z5:=R hX 5 rfl
 have f5:=zd hX 5 (by decide)
 have z6:=R hX 6 rfl
 have f6:=zd hX 6 (by decide)
 have z7:=R hX 7 rfl
 have f7:=zd hX 7 (by decide)
 have z8:=R hX 8 rfl
 have f8:=zd hX 8 (by decide)
 have z9:=R hX 9 rfl
 have f9:=zd hX 9 (by decide)
 have kX:=R hX 10 rfl
 have f10:=zd hX 10 (by decide)
 have oz:=R hX 11 rfl
 have f11:=zd hX 11 (by decide)
 have oA:=R hX 12 rfl
 have f12:=zd hX 12 (by decide)
 have oB:=R hX 13 rfl
 have f13:=zd hX 13 (by decide)
 unfold tupE evV
 simp only
 clear ui hX HR HX HZ
 go_wp2_with fail
 rw [set14]
 have xT:=M (zF (us:=(yv xm ck L ct F cq ci X cg id xi qty xj xh)) (H qH) rfl)
 have HBF:=M (zj w.heap.size ya (yv xm ck L ct F cq ci X cg id xi qty xj xh) 0 W1 (H ud))
 clear z0 f0 z1 f1 z2 f2 z3 f3 z4 f4 z5 f5 z6 f6 z7 f7 z8 f8 z9 f9 kX f10 oz f11 oA f12 oB f13 qH ud
 generalize (W1.setCells w.heap.size 0 (yv xm ck L ct F cq ci X cg id xi qty xj xh)) = WF at xT HBF ⊢
 obtain ⟨d0,d1,d2,d3,d4,d5,d6,d7,d8,d9,kz,og,oh,oi⟩:=yy (H xT)
 refine bodyPost_ret (v:=tupE ⟨xm,⟨ck,L,ct,F,cq,ci,X,cg⟩,id,xi,qty,xj,xh⟩ (r2,r3)) ?_ rfl ⟨rfl,H HBF⟩
 simp [results,Tryz.f70,go_sem,d0,d1,d2,d3,d4,d5,d6,d7,d8,d9,kz,og,oh,oi,tupE,evV]
theorem ite_okb (p:Prop) [Decidable p] (b:Bool) (W:World):(if p then Result.ok (Value.bool b) W else Result.ok (Value.bool false) W) = Result.ok (Value.bool (decide p && b)) W:=by
 split <;> simp_all
theorem eqVlE (a b:Ev) (W:World):(binOp .eql 119 (vlV a) (vlV b)).run Tryz.prog W = .ok (.bool (sameE a b)) W:=by
 obtain ⟨ak,⟨a1,a2,a3,a4,a5,a6,a7,a8⟩,a9,a10,a11,a12,a13⟩:=a
 obtain ⟨bk,⟨b1,b2,b3,b4,b5,b6,b7,b8⟩,b9,b10,b11,qz,b13⟩:=b
 unfold vlV
 simp only
 go_simp
 unfold sameE
 simp only
 have h7:((fbit a7:Int) = fbit b7) ↔ fbit a7 = fbit b7:=by omega
 simp only [h7,ite_okb,Bool.and_true]
 rfl
theorem eqGdE (a b:Ev) (W:World):(eqGuard .eql 119 (.tmp 22) (.tmp 24) (vlV a) (vlV b)).run Tryz.prog W = .ok () W:=by
 unfold vlV
 go_simp
theorem implOK_any (e:Ev) (he:e.fit) (w:World) (hE:ErrT w):Calls Tryz.prog 39 #[evV e] w fun r w'=>r = .returned (.bool (okE e))∧yn w w':=by
 have hsf:=sfl
 obtain ⟨xz,uB⟩:=fJ w e.vs 52
 have qM:Hid ((w.alloc (Obj.cells e.vs.toArray 52)).heap.size = w.heap.size + 1):=by show _ = _; simp
 have HE1:=M (cx hE xz ya)
 have ud:=M xz
 have kr:=M (fun (hk:1 ≤ e.kind∧e.kind ≤ 9) W=>addEvent_any e he hk W.heap.size (.slice none 0 0) [] W ya (World.ownsRow_nil _ _ _ _) (by simp))
 have jm:=M (fun (hk:1 ≤ e.kind∧e.kind ≤ 9)=>evA_wr e he ((shF_ne e.kind).2 hk) [])
 have HLN:=M (evL_len e he)
 have HBT:=M (evL_bts e)
 have HQ:=M (fun (hk:1 ≤ e.kind∧e.kind ≤ 9)=>okE_eq e hk)
 have HNO:Hid (¬ (1 ≤ e.kind∧e.kind ≤ 9)→okE e = false):=fun h=>by
  unfold okE
  rw [if_pos (by unfold fldK; rw [if_neg (by omega),if_neg (by omega),if_neg (by omega),if_neg (by omega),if_neg (by omega)])]
 have HVA:=M (fun W=>eH e W)
 have HVB:=M (fun W=>eH (bkE e) W)
 have HSM:=M (fun W=>eqVlE (bkE e) e W)
 have qk:=M (fun W=>eqGdE (bkE e) e W)
 have jq:=shF_ne e.kind
 clear he xz
 generalize okE e = ok at *
 generalize bkE e = b at *
 generalize evL e = cs at *
 have HVE:Hid (evV e = .agg e.vs.toArray):=rfl
 generalize sameE b e = sm at *
 generalize vlV e = vl at *
 generalize vlV b = vb at *
 obtain ⟨xm,⟨ck,L,ct,F,cq,ci,X,cg⟩,id,xi,qty,xj,xh⟩:=e
 unfold evV at HVA kr ⊢
 unfold Ev.vs at uB qM HE1 ud
 simp only at HVA kr uB qM HE1 ud jq jm HBT HQ HNO ⊢
 go_enter Tryz.func39,Tryz.ntmps39
 refine fI fun hR xU=>?_
 go_wp2_with fail
 refine H xU _ _ ?_
 clear xU
 generalize (w.alloc (A (yv xm ck L ct F cq ci X cg id xi qty xj xh).toArray 52)) = W1 at uB qM HE1 ud ⊢
 have x0:=R (H uB) 0 rfl
 go_wp2_with fail
 refine (shape_any xm W1).mono ?_
 rintro r W2 ⟨fv,fs,rfl,hof,hff,xJ⟩
 have vU:=(ffs_get hff).1
 obtain ⟨fa,kB,rfl,hfl,uK⟩:=hof
 clear hff uK
 have xu:=M xJ
 clear xJ
 go_wp2_with fail
 refine (isKind_any (shC xm) fa fs.length kB W2).mono ?_
 rintro r W3 ⟨rfl,xM⟩
 have xL:=M (fH (H xu) xM)
 clear xM
 by_cases hk:1 ≤ xm∧xm ≤ 9
 ·have qK:decide (0 < fs.length) = true:=by
   rw [← vU,decide_eq_true_iff]
   exact List.length_pos_iff.2 (jq.2 hk)
  rw [qK]
  have ko:=zg (H uB) (H xL) (by rw [H qM]; omega)
  have z0:=R ko 0 rfl
  have z1:=R ko 1 rfl
  have z2:=R ko 2 rfl
  have z3:=R ko 3 rfl
  have z4:=R ko 4 rfl
  have z5:=R ko 5 rfl
  have z6:=R ko 6 rfl
  have z7:=R ko 7 rfl
  have z8:=R ko 8 rfl
  have z9:=R ko 9 rfl
  have kX:=R ko 10 rfl
  have oz:=R ko 11 rfl
  have oA:=R ko 12 rfl
  have oB:=R ko 13 rfl
  have uC:=M ko
  have HW3:=M ((H ud).trans ((H xL).mono (H ud).size))
  have HE3:=M (cx (H HE1) (H xL) ya)
  have HAD3:=M (H kr hk W3)
  have aO:w.heap.size < W3.heap.size:=by have:=(H xL).size; rw [H qM] at this; omega
  clear ko qK xu xL uB HE1 ud vU hfl x0
  go_wp2_with fail
  refine (H HAD3).mono ?_
  rintro r W4 ⟨v4,rfl,hr4,kM,hq4⟩
  rw [List.nil_append] at hr4
  have jk:=H HLN
  have pf:=bRow_own hr4 jk.1 (by omega)
  have xw:yn W3 W4:=⟨kM.os,kM.tape,kM.output,kM.size,fun i hi=>kM.block i hi (by simp [Value.ownBlock])⟩
  have HDC:=M (implDecode_any v4 cs 0 W4 (own_rd pf.own) (capOk_own pf) (H HBT hk) (cx (H HE3) xw ya))
  have her:evR cs 0 = (b,((cs.length:Nat):Int),0):=evR_some (k:=0) (by omega) (by omega) (by have:=H jm hk; rwa [List.append_nil] at this)
  rw [her] at HDC
  have xE:=M (zg (H uC) xw aO)
  have kn:=M (fH (H HW3) xw)
  have hz4:w.heap.size < W4.heap.size:=yJ aO xw.size
  clear hr4 kM hq4 pf xw her HE3 HAD3 uC HW3 aO z0 z1 z2 z3 z4 z5 z6 z7 z8 z9 kX oz oA oB
  go_wp2_with fail
  refine (H HDC).mono ?_
  rintro r W5 ⟨rfl,uf⟩
  unfold tupE
  have hX5:=zg (H xE) uf hz4
  have HW5:=M (fH (H kn) uf)
  have hz5:w.heap.size < W5.heap.size:=yJ hz4 uf.size
  obtain ⟨kl,⟨ck',cs',ct',cl',cq',ci',cp',cg'⟩,id',qV,aw,qW,qj⟩:=b
  unfold evV at HVB ⊢
  simp only at HVB ⊢
  have kp:=fE W5 (A (yv kl ck' cs' ct' cl' cq' ci' cp' cg' id' qV aw qW qj).toArray 52)
  have oe:Hid (Bx (W5.alloc (A (yv kl ck' cs' ct' cl' cq' ci' cp' cg' id' qV aw qW qj).toArray 52)) W5.heap.size (yv kl ck' cs' ct' cl' cq' ci' cp' cg' id' qV aw qW qj)):=zq W5 (yv kl ck' cs' ct' cl' cq' ci' cp' cg' id' qV aw qW qj) 52
  have vp:=M (zg hX5 kp hz5)
  have HW6:=M (fH (H HW5) kp)
  have HZ6:Hid ((W5.alloc (A (yv kl ck' cs' ct' cl' cq' ci' cp' cg' id' qV aw qW qj).toArray 52)).heap.size = W5.heap.size + 1):=by show _ = _; simp
  clear uf kp hX5 xE kn HW5 hz4 HDC
  go_wp2_with fail
  generalize (W5.alloc (A (yv kl ck' cs' ct' cl' cq' ci' cp' cg' id' qV aw qW qj).toArray 52)) = W6 at oe vp HW6 HZ6 ⊢
  have HCB:Hid (Calls Tryz.prog 72 #[.agg (yv kl ck' cs' ct' cl' cq' ci' cp' cg' id' qV aw qW qj).toArray] W6.drew fun r W7=>r = .returned vb∧Bx W7 w.heap.size (yv xm ck L ct F cq ci X cg id xi qty xj xh)∧yn w W7):=by
   refine (H HVB W6.drew).mono ?_
   rintro r W7 ⟨rfl,vX⟩
   exact ⟨rfl,zg (zJ (H vp)) vX (by show w.heap.size < W6.heap.size; rw [H HZ6]; omega),(H HW6).drew.trans (vX.mono (H HW6).drew.size)⟩
  obtain ⟨x0,x1,x2,x3,x4,x5,x6,x7,x8,x9,jP,jQ,jR,jS⟩:=yy (H vp)
  obtain ⟨y0,y1,y2,y3,y4,y5,y6,y7,y8,y9,y10,y11,y12,y13⟩:=yy (H oe)
  have hsm:=fun W=>H HSM W
  have hgd:=fun W=>H qk W
  have HQQ:=M (H HQ hk)
  clear oe vp HVB
  go_region_with (go_at_call 72; first | (with_reducible refine (H HCB).mono ?_; rintro r W7 ⟨rfl,pS,hW7⟩; have HW7:=M hW7; have g0:=R pS 0 rfl; have g1:=R pS 1 rfl; have g2:=R pS 2 rfl; have g3:=R pS 3 rfl; have g4:=R pS 4 rfl; have g5:=R pS 5 rfl; have g6:=R pS 6 rfl; have g7:=R pS 7 rfl; have g8:=R pS 8 rfl; have g9:=R pS 9 rfl; have qp:=R pS 10 rfl; have vE:=R pS 11 rfl; have xZ:=R pS 12 rfl; have qJ:=R pS 13 rfl; clear pS hW7) | (refine (H HVA _).mono ?_; rintro r W8 ⟨rfl,hb8⟩; have HW8:=M (fH (H HW7) hb8); clear hb8))
  all_goals try go_wp2_with fail
  all_goals
   refine bodyPost_ret (v:=.bool sm) ?_ rfl ⟨by rw [H HQQ],H HW8⟩
   simp [results,Tryz.f39,go_sem]
 ·have qK:decide (0 < fs.length) = false:=by
   rw [← vU,decide_eq_false_iff_not]
   intro h
   exact hk (jq.1 (List.length_pos_iff.1 h))
  rw [qK]
  go_wp2_with fail
  go_ret
  exact ⟨by rw [H HNO hk]; rfl,(H ud).trans ((H xL).mono (H ud).size)⟩
theorem allRight_any (v:Value) (l:List Ev) (w:World) (hr:RdR Ev.vs 14 w v l) (hf:∀ e ∈ l,e.fit) (hE:ErrT w):Calls Tryz.prog 57 #[v] w fun r w'=>r = .returned (.bool (l.all okE))∧yn w w':=by
 have hsf:=sfl
 have HE:=M hE
 obtain ⟨a,cap,rfl,hl,hc⟩:=hr
 have HC:=M hc
 have HF:=M hf
 clear hc hf hE
 go_enter Tryz.func57,Tryz.ntmps57
 go_wp2_with fail
 go_loopw [7] (fun iv wr=>∃ k:Nat,k ≤ l.length∧iv = I k∧(l.take k).all okE = true∧yn w wr) (fun iv _=>l.length - (intOf iv).toNat)
 case atStart=>exact ⟨0,Nat.zero_le _,rfl,rfl,Below.refl _ _⟩
 case round =>
  obtain ⟨k,hk,rfl,D,Y⟩:=hrel
  have HB:=M Y
  have HA:=M D
  clear Y D
  by_cases xI:k < l.length
  ·obtain ⟨e,jq⟩:∃ e,l[k]? = some e:=⟨_,yH xI⟩
   obtain ⟨b,off,rfl,kC,xV⟩:=H HC (by intro h; rw [h] at xI; simp at xI)
   have V:=zc (xV k e jq) (H HB) kC
   have uJ:(k:Int) < l.length:=by omega
   have ke:=H HF e (yO jq)
   have qA:=fE wr (Obj.cells e.vs.toArray 52)
   have xu:=M (fH (H HB) qA)
   have HO:=M (implOK_any e ke (wr.alloc (Obj.cells e.vs.toArray 52)) (cx (H HE) (H xu) ya))
   have HT:Hid ((l.take (k + 1)).all okE = ((l.take k).all okE && okE e)):=by
    show (l.take (k + 1)).all okE = _
    rw [List.take_add_one,jq]
    simp
   have HNo:Hid (okE e = false→l.all okE = false):=fun h=>List.all_eq_false.2 ⟨e,yO jq,by rw [h]; decide⟩
   generalize okE e = ok at *
   obtain ⟨xm,⟨ck,L,ct,F,cq,ci,X,cg⟩,id,xi,qty,xj,xh⟩:=e
   unfold evV at HO
   unfold Ev.vs at HO xu
   simp only at HO xu
   have x0:wr.cell? (U b (off + k * 14)) = _:=V 0 _ rfl
   have x1:=V 1 _ rfl
   have x2:=V 2 _ rfl
   have x3:=V 3 _ rfl
   have x4:=V 4 _ rfl
   have x5:=V 5 _ rfl
   have x6:=V 6 _ rfl
   have x7:=V 7 _ rfl
   have x8:=V 8 _ rfl
   have x9:=V 9 _ rfl
   have jP:=V 10 _ rfl
   have jQ:=V 11 _ rfl
   have jR:=V 12 _ rfl
   have jS:=V 13 _ rfl
   clear V xV jq ke qA
   go_wp2_with fail
   refine (H HO).mono ?_
   rintro r W3 ⟨rfl,xM⟩
   have xL:=M (fH (H xu) xM)
   clear xM x0 x1 x2 x3 x4 x5 x6 x7 x8 x9 jP jQ jR jS
   cases ok with
   | true =>
    go_wp2_with fail
    go_roundw
    case rel=>exact ⟨k + 1,by omega,by go_num,by rw [H HT,H HA]; rfl,H xL⟩
    case measure=>simp [intOf]; omega
   | false =>
    have HNN:=M (H HNo rfl)
    go_wp2_with fail
    go_ret
    exact ⟨by rw [H HNN]; rfl,H xL⟩
  ·have oN:k = l.length:=by omega
   have HY:Hid (l.all okE = true):=by
    have:=H HA
    rwa [oN,List.take_length] at this
   go_wp2_with fail
   go_ret
   exact ⟨by rw [H HY]; rfl,H HB⟩
def brV (k:Int):Value:=.iface 121 (I k)
def brk (k:Int):List PanicEntry:=[{ v:=.iface 121 (I k),recovered:=false }]
theorem bI (k:Int) (w:World):Calls Tryz.prog 133 #[.bool true,I k] w fun e w'=>e = .returned (.tuple #[])∧w' = w:=by
 go_enter Tryz.func133,Tryz.ntmps133
 go_wp2_with fail
 go_end0
 exact ⟨rfl,rfl⟩
theorem bD (k:Int) (w:World):Calls Tryz.prog 133 #[.bool false,I k] w fun e w'=>e = .panicked (brk k)∧w' = w:=by
 go_enter Tryz.func133,Tryz.ntmps133
 go_wp2
 exact ⟨rfl,rfl,rfl⟩
theorem isJust_any (e:Ev) (d:Du) (w:World):Calls Tryz.prog 139 #[evV e,duV d] w fun r w'=>r = .returned (.bool (aW e d))∧yn w w':=by
 have hsf:=sfl
 obtain ⟨xm,⟨ck,L,ct,F,cq,ci,X,cg⟩,id,xi,qty,xj,xh⟩:=e
 obtain ⟨dk,di,dot,dq,dp⟩:=d
 unfold evV duV
 simp only
 by_cases Q:xm = dk
 ·have b1:(xm == dk) = true:=by simpa using Q
  by_cases E:id = di
  ·have b2:(id == di) = true:=by simpa using E
   have O:aW ⟨xm,⟨ck,L,ct,F,cq,ci,X,cg⟩,id,xi,qty,xj,xh⟩ ⟨dk,di,dot,dq,dp⟩ = (qty == dq):=by simp [aW,b1,b2]
   rw [O]
   clear O Q E
   go_enter Tryz.func139,Tryz.ntmps139
   go_wp2_with fail
   go_ret
   exact ⟨rfl,by go_grown⟩
  ·have b2:(id == di) = false:=by simpa using E
   have O:aW ⟨xm,⟨ck,L,ct,F,cq,ci,X,cg⟩,id,xi,qty,xj,xh⟩ ⟨dk,di,dot,dq,dp⟩ = false:=by simp [aW,b1,b2]
   rw [O]
   clear O Q E
   go_enter Tryz.func139,Tryz.ntmps139
   go_wp2_with fail
   go_ret
   exact ⟨rfl,by go_grown⟩
 ·have b1:(xm == dk) = false:=by simpa using Q
  have O:aW ⟨xm,⟨ck,L,ct,F,cq,ci,X,cg⟩,id,xi,qty,xj,xh⟩ ⟨dk,di,dot,dq,dp⟩ = false:=by simp [aW,b1]
  rw [O]
  clear O Q
  go_enter Tryz.func139,Tryz.ntmps139
  go_wp2_with fail
  go_ret
  exact ⟨rfl,by go_grown⟩
theorem toldCmd_any (e:Ev) (w:World) (hk:1 ≤ e.kind∧e.kind ≤ 9):Calls Tryz.prog 174 #[evV e] w fun r w'=>r = .returned (.tuple #[cmV (aU e),.bool (zO e.kind)])∧yn w w':=by
 have hsf:=sfl
 obtain ⟨xm,⟨ck,L,ct,F,cq,ci,X,cg⟩,id,xi,qty,xj,xh⟩:=e
 simp only at hk
 unfold evV aU cmV zCm zO
 simp only
 rcases (show xm = 1 ∨ xm = 2 ∨ xm = 3 ∨ xm = 4 ∨ xm = 5 ∨ xm = 6 ∨ xm = 7 ∨ xm = 8 ∨ xm = 9 by omega) with rfl | rfl | rfl | rfl | rfl | rfl | rfl | rfl | rfl
 all_goals
  clear hk
  simp
  go_enter Tryz.func174,Tryz.ntmps174
  go_wp2_with fail
  go_returns
  exact ⟨rfl,by go_grown⟩
def mI (k:Int) (f:FuncId) (b:Nat):MapEntry:={ key:=I k,val:=.func (.func f) #[] #[],born:=b }
def chkM:Array MapEntry:=#[mI 1 87 0,mI 2 88 1,mI 3 89 2,mI 4 90 3,mI 5 91 4,mI 6 92 5,mI 7 93 6,mI 8 94 7,mI 9 95 8]
def gsV (r:Nat) (vq:Value) (g:Gr):List Value:=[.map (some r),I g.nx,vq,I g.bg,I g.cm.s,I g.cm.t,I g.cm.l,I g.cm.q,yj g.cm.p,yk g.cm.g,I g.tk.id,I g.tk.side,I g.tk.ticks,I g.tk.left,I g.tk.life,yk g.tk.tag]
structure GS (G B r:Nat) (W:World) (vq:Value) (g:Gr):Prop where
 box:Bx W G (gsV r vq g)
 row:ORow W B vq g.l
 typ:∃ cur,W.heap[G]? = some (.cells cur 87 (0,0))
 mp:W.heap[r]? = some (.map chkM 9)
 hG:B ≤ G
 hr:B ≤ r
section
variable {G B r:Nat} {w W W':World} {vq uH:Value} {g g':Gr}
theorem GS.lt (h:GS G B r W vq g):G < W.heap.size:=by
 obtain ⟨xF,hc⟩:=h.typ
 exact (yY.1 hc).1
theorem GS.rlt (h:GS G B r W vq g):r < W.heap.size:=(yY.1 h.mp).1
theorem GS.ne (h:GS G B r W vq g):r ≠ G:=by
 rintro rfl
 obtain ⟨xF,hc⟩:=h.typ
 rw [h.mp] at hc
 cases hc
theorem GS.nq (h:GS G B r W vq g):some G ≠ vq.ownBlock:=cd h.row h.typ (by decide)
theorem GS.nr (h:GS G B r W vq g):some r ≠ vq.ownBlock:=by
 rcases h.row.2 with ⟨Q,_⟩ | ⟨b,cap,xF,Q,_,h3,_⟩
 ·rw [Q]; simp [Value.ownBlock]
 ·rw [Q]
  intro e
  simp only [Value.ownBlock,Option.some.injEq] at e
  rw [← e,h.mp] at h3
  cases h3
theorem zx (h:GS G B r W vq g) (Y:yn W W'):GS G B r W' vq g :=
 ⟨zg h.box Y h.lt,zM h.row Y,by obtain ⟨xF,hc⟩:=h.typ; exact ⟨xF,(Y.block G h.lt).trans hc⟩,(Y.block r h.rlt).trans h.mp,h.hG,h.hr⟩
theorem gs_set (h:GS G B r W vq g) (j:Nat) (u:Value) (O:j < 16) (he:gsV r vq g' = (gsV r vq g).set j u) (hl:g'.l = g.l):GS G B r (W.setCell (U G j) u) vq g' :=
 ⟨by rw [he]; exact bd h.box O,by rw [hl]; exact bp h.row h.nq j u,by obtain ⟨xF,hc⟩:=h.typ; exact bU W G j u hc,(yS _ _ _ _ h.ne).trans h.mp,h.hG,h.hr⟩
theorem gs_took {l':List Od} (h:GS G B r W vq g) (hc:W'.cell? (U G 2) = some uH) (N:ORow W' B uH l') (ht:TookAt G 1 vq.ownBlock W W'):GS G B r W' uH { g with l:=l' }:=by
 refine ⟨⟨fun j u O=>?_,fun j O=>⟨?_,?_⟩⟩,N,by obtain ⟨xF,hc⟩:=h.typ; exact ht.kind _ _ _ hc,(ht.block r h.rlt h.ne h.nr).trans h.mp,h.hG,h.hr⟩
 ·rw [Nat.zero_add]
  by_cases E:j = 2
  ·subst E; cases O; exact hc
  ·rw [ht.cell j E]
   refine R h.box j ?_
   unfold gsV at O ⊢
   match j,O,E with
   | 0,O,_=>exact O
   | 1,O,_=>exact O
   | 2,O,E=>exact absurd rfl E
   | j + 3,O,_=>exact O
 ·rw [Nat.zero_add]
  by_cases E:j = 2
  ·subst E; rw [hc]; rfl
  ·rw [ht.cell j E]
   have:=(h.box.t j (by simpa [gsV] using O)).1
   rwa [Nat.zero_add] at this
 ·rw [ht.frozen]
  exact (h.box.t j (by simpa [gsV] using O)).2
theorem below_setG {C:Nat} (Y:Below C w W) (hC:C ≤ B) (h:GS G B r W vq g) (j:Nat) (u:Value):Below C w (W.setCell (U G j) u) :=
 ⟨Y.os,Y.tape,Y.output,by have:=Y.size; simpa [World.setCell] using this,fun k hk=>by
  rw [yS _ _ _ _ (by show k ≠ G; have:=h.hG; omega)]
  exact Y.block k hk⟩
end
theorem fdyF_find:∀ (l:List Od) (k:Nat),(fdyF l k = -1∧l.find? isDy = none) ∨ ∃ (i:Nat) (o:Od),fdyF l k = ((k + i:Nat):Int)∧l[i]? = some o∧l.find? isDy = some o
 | [],_=>.inl ⟨rfl,rfl⟩
 | a :: r,k=>by
  by_cases h:a.life = 1
  ·exact .inr ⟨0,a,by rw [fdyF,if_pos h,Nat.add_zero],rfl,by simp [isDy,h]⟩
  ·rcases fdyF_find r (k + 1) with ⟨Q,E⟩ | ⟨i,o,Q,E,h3⟩
   ·exact .inl ⟨by rw [fdyF,if_neg h,Q],by simp [isDy,h]; simpa [isDy] using E⟩
   ·exact .inr ⟨i + 1,o,by rw [fdyF,if_neg h,Q]; congr 1; omega,by simpa using E,by rw [List.find?_cons_of_neg (by simpa [isDy] using h)]; exact h3⟩
theorem fdy_find (l:List Od):(fdy l = -1∧l.find? isDy = none) ∨ ∃ (i:Nat) (o:Od),fdy l = i∧l[i]? = some o∧l.find? isDy = some o:=by
 rcases fdyF_find l 0 with h | ⟨i,o,Q,E,h3⟩
 ·exact .inl h
 ·exact .inr ⟨i,o,by rw [fdy,Q,Nat.zero_add],E,h3⟩
theorem dayDue_any {G B r:Nat} {vq:Value} {g:Gr} (w:World) (h:GS G B r w vq g) (hn:g.l.length ≤ 1000):Calls Tryz.prog 60 #[J G 0] w fun e w'=>e = .returned (duV (dayD g.l))∧yn w w':=by
 have hG:=h.lt
 obtain ⟨xz,HX⟩:=fJ w [I 0,I 0,I 0,I 0,I 0] 29
 have HS:Hid ((w.alloc (A #[I 0,I 0,I 0,I 0,I 0] 29)).heap.size = w.heap.size + 1):=by show _ = _; simp
 have HG:=M (zx h xz)
 have HB:=M xz
 clear h xz
 obtain ⟨nx,l,bg,cm,tk⟩:=g
 simp only at hn ⊢
 go_enter Tryz.func60,Tryz.ntmps60
 refine fI fun hR HK=>?_
 go_wp2_with fail
 refine H HK _ _ ?_
 clear HK
 generalize (w.alloc (A #[I 0,I 0,I 0,I 0,I 0] 29)) = W1 at HX HS HG HB ⊢
 have c2:W1.cell? (U G 2) = some vq:=R (H HG).box 2 rfl
 have uR:=M (zK (H HG).row (yN hn (by decide)))
 go_wp2_with fail
 refine (indexDay_any vq l W1 (H uR)).mono ?_
 rintro e w2 ⟨rfl,xJ⟩
 have uh:=M (zx (H HG) xJ)
 have hz:=H HS
 have xH:=M (zg (H HX) xJ (by omega))
 have xu:=M (fH (H HB) xJ)
 have z0:=R (H xH) 0 rfl
 have z1:=R (H xH) 1 rfl
 have z2:=R (H xH) 2 rfl
 have z3:=R (H xH) 3 rfl
 have z4:=R (H xH) 4 rfl
 have f0:=zd (H xH) 0 (by decide)
 have f1:=zd (H xH) 1 (by decide)
 have f2:=zd (H xH) 2 (by decide)
 have f3:=zd (H xH) 3 (by decide)
 have f4:=zd (H xH) 4 (by decide)
 have HRD2:=M (zK (H uh).row (yN hn (by decide)))
 clear c2 xJ hz HX HS HG HB uR
 rcases fdy_find l with ⟨Q,E⟩ | ⟨i,o,Q,E,h3⟩
 ·have HD:Hid (dayD l = zDu):=by show _ = _; unfold dayD; rw [E]
  rw [Q]
  clear Q E
  go_wp2_with fail
  try simp (config:={ zetaDelta:=true }) only [Exit.noGoto_ret]
  change bodyPost _ _ _ _ _ (World.setCells w2 w.heap.size 0 [I 0,I 0,I 0,I 0,I 0])
  have xp:Hid ((World.setCells w2 w.heap.size 0 [I 0,I 0,I 0,I 0,I 0]).rangeAt w.heap.size 0 [I 0,I 0,I 0,I 0,I 0]∧yn w (World.setCells w2 w.heap.size 0 [I 0,I 0,I 0,I 0,I 0])):=⟨(zF (H xH) (by simp only [List.length_cons,List.length_nil])).r,zj w.heap.size ya [I 0,I 0,I 0,I 0,I 0] 0 w2 (H xu)⟩
  generalize World.setCells w2 w.heap.size 0 [I 0,I 0,I 0,I 0,I 0] = WE at xp ⊢
  obtain ⟨d0,d1,d2,d3,d4⟩:=yB (H xp).1
  try simp only [Exit.inBlock,Exit.then]
  refine bodyPost_ret (by simp [results,Tryz.results60,go_sem,d0,d1,d2,d3,d4]; try rfl) rfl ?_
  exact ⟨by rw [H HD]; rfl,(H xp).2⟩
 ·have HD:Hid (dayD l = ⟨9,o.id,0,o.left,0⟩):=by show _ = _; unfold dayD; rw [h3]
  obtain ⟨a,cap,rfl,hl,hc⟩:=H HRD2
  obtain ⟨b,off,rfl,kC,V⟩:=hc (by rintro rfl; simp at E)
  obtain ⟨y0,-,-,y3,-,-⟩:=zA (V i o E)
  have hil:(i:Int) < l.length:=by have:=(yG.1 E).1; omega
  have vA:¬ ((i:Int) < 0):=by omega
  have hi0':(0:Int) ≤ i:=by omega
  have c2:w2.cell? (U G 2) = some (.slice (some (U b off)) l.length cap):=R (H uh).box 2 rfl
  rw [Q]
  clear Q E h3 hc V HRD2
  go_wp2_with fail
  refine zE 19 (by kernel_rfl) (by kernel_rfl) ?_
  simp only [yT,List.take_zero,yU,List.drop_zero]
  have c2d:w2.drew.cell? (U G 2) = some (.slice (some (U b off)) l.length cap):=c2
  have y0d:w2.drew.cell? (U b (off + i * 6)) = some (I o.id):=y0
  have y3d:w2.drew.cell? (U b (off + i * 6 + 3)) = some (I o.left):=y3
  have HB2d:Hid (yn w w2.drew):=⟨(H xu).os,(H xu).tape,(H xu).output,(H xu).size,(H xu).block⟩
  repeat still_step
  refine wpStill_nil ?_
  have jC:Hid (Bx w2.drew w.heap.size [I 0,I 0,I 0,I 0,I 0]):=zJ (H xH)
  clear c2d y0d y3d c2 y0 y3 z0 z1 z2 z3 z4 f0 f1 f2 f3 f4 xH uh xu
  generalize w2.drew = W3 at jC HB2d ⊢
  have z0:=R (H jC) 0 rfl
  have z1:=R (H jC) 1 rfl
  have z2:=R (H jC) 2 rfl
  have z3:=R (H jC) 3 rfl
  have z4:=R (H jC) 4 rfl
  have f0:=zd (H jC) 0 (by decide)
  have f1:=zd (H jC) 1 (by decide)
  have f2:=zd (H jC) 2 (by decide)
  have f3:=zd (H jC) 3 (by decide)
  have f4:=zd (H jC) 4 (by decide)
  go_wp2_with fail
  try simp (config:={ zetaDelta:=true }) only [Exit.noGoto_ret]
  change bodyPost _ _ _ _ _ (World.setCells W3 w.heap.size 0 [I 9,I o.id,I 0,I o.left,I 0])
  have xp:Hid ((World.setCells W3 w.heap.size 0 [I 9,I o.id,I 0,I o.left,I 0]).rangeAt w.heap.size 0 [I 9,I o.id,I 0,I o.left,I 0]∧yn w (World.setCells W3 w.heap.size 0 [I 9,I o.id,I 0,I o.left,I 0])):=⟨(zF (H jC) (by simp only [List.length_cons,List.length_nil])).r,zj w.heap.size ya [I 9,I o.id,I 0,I o.left,I 0] 0 W3 (H HB2d)⟩
  generalize World.setCells W3 w.heap.size 0 [I 9,I o.id,I 0,I o.left,I 0] = WE at xp ⊢
  obtain ⟨d0,d1,d2,d3,d4⟩:=yB (H xp).1
  try simp only [Exit.inBlock,Exit.then]
  refine bodyPost_ret (by simp [results,Tryz.results60,go_sem,d0,d1,d2,d3,d4]; try rfl) rfl ?_
  exact ⟨by rw [H HD]; rfl,(H xp).2⟩
end Go.Proofs.YtnphbkgfjanmgaaGreatDoor
