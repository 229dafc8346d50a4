/-
  What the reading of an event at a place answers, proved by walking it: the program's DecodeEvent.
-/
import Derived.Test.YtnphbkgfjanmgaaGreatDoorAj24
set_option linter.unusedVariables false
set_option maxHeartbeats 6400000
set_option maxRecDepth 100000
namespace Go.Proofs.YtnphbkgfjanmgaaGreatDoor
open Go.RowKit
theorem readE_any (v:Value) (l:List Int) (at_:Int) (w:World) (xO:Rd w v l) (ut:CapOk v) (Q:Bts l) (hE:ErrT w) :
  Calls Tryz.prog 121 #[v,I at_,.func (.func 122) #[] #[]] w fun e w'=>e = .returned (tupE (evR l at_).1 (evR l at_).2)∧yp w w':=by
 obtain ⟨a,cap,hv⟩:=rd_len xO
 by_cases N:65536 < l.length
 ·rw [evR_long N]
  refine fY v l.length a cap hv at_ 2 w hE fun w0 hw0=>?_
  subst hw0
  have hr:=(rdE_box w v at_).2.1
  subst hv
  exact tryE_check (w.heap.size + 1) a l.length cap at_ 2 _ hr fun w0 h=>check_long _ at_ a l.length cap w0 h N
 by_cases Y:at_ < 0 ∨ (l.length:Int) < at_
 ·rw [evR_out N Y]
  refine fY v l.length a cap hv at_ 5 w hE fun w0 hw0=>?_
  subst hw0
  have hr:=(rdE_box w v at_).2.1
  subst hv
  exact tryE_check (w.heap.size + 1) a l.length cap at_ 5 _ hr fun w0 h=>check_out _ at_ a l.length cap w0 h Y (by omega)
 obtain ⟨k,rfl⟩:=Int.eq_ofNat_of_zero_le (show 0 ≤ at_ by omega)
 have hk:k ≤ l.length:=by omega
 obtain ⟨_,hr,xl,hz⟩:=rdE_box w v (k:Int)
 have hev:∀ w0,Below (w.heap.size + 2) ((w.alloc (A (yw 0 0 0 0 0 0 0 0 ⟨#[]⟩ 0 0 0 0 0).toArray 52)).alloc (A #[v,I (k:Int)] 182)) w0→Calls Tryz.prog 122 #[.pointer (some ⟨w.heap.size + 1,0,none⟩)] w0 fun e w'=>EvEnd (w.heap.size + 1) v w0 (evA l k) e w':=fun w0 xC =>
  event_any w (w.heap.size + 1) v l k w0 ⟨xO,ut,Nat.le_succ _,xl.trans (xC.mono (by omega)),eC hr xC (by omega),hk,by omega,Q⟩
 cases hg:evA l k with
 | none =>
  rw [evR_none N hk hg]
  refine fY v l.length a cap hv k 3 w hE fun w0 hw0=>?_
  subst hw0
  rw [hg] at hev
  subst hv
  exact tryE_fail (w.heap.size + 1) a l.length cap k 3 _ hr (by omega) (by omega) (by omega) fun w0 h=>(hev w0 (by rw [hz] at h; exact h)).mono fun e w' h=>⟨h.1,h.2.2 rfl⟩
 | some r =>
  obtain ⟨x,n⟩:=r
  rw [evR_some N hk hg]
  refine readE_fine v l.length a cap hv k x n w fun w0 hw0=>?_
  subst hw0
  rw [hg] at hev
  subst hv
  exact tryE_ok (w.heap.size + 1) a l.length cap k x n _ hr (by omega) (by omega) (by omega) fun w0 h=>(hev w0 (by rw [hz] at h; exact h)).mono fun e w' h=>⟨h.1,(h.2.1 x n rfl).1,(h.2.1 x n rfl).2⟩
theorem implDecode_any (v:Value) (l:List Int) (at_:Int) (w:World) (xO:Rd w v l) (ut:CapOk v) (Q:Bts l) (hE:ErrT w) :
  Calls Tryz.prog 70 #[v,I at_] w fun e w'=>e = .returned (tupE (evR l at_).1 (evR l at_).2)∧yp w w':=by
 have hsf:=sfl
 have qD:=gp w (A (yw 0 0 0 0 0 0 0 0 ⟨#[]⟩ 0 0 0 0 0).toArray 52)
 have HR:=H (readE_any v l at_ _ (rd_below xO qD yb) ut Q (dh hE qD yb))
 have HB:=H qD
 have HX:Hid (Bx (w.alloc (A (yw 0 0 0 0 0 0 0 0 ⟨#[]⟩ 0 0 0 0 0).toArray 52)) w.heap.size (yw 0 0 0 0 0 0 0 0 ⟨#[]⟩ 0 0 0 0 0)):=zq w (yw 0 0 0 0 0 0 0 0 ⟨#[]⟩ 0 0 0 0 0) 52
 have HZ:Hid ((w.alloc (A (yw 0 0 0 0 0 0 0 0 ⟨#[]⟩ 0 0 0 0 0).toArray 52)).heap.size = w.heap.size + 1):=by show _ = _; simp
 obtain ⟨a,cap,rfl⟩:=rd_len xO
 clear xO ut Q hE qD
 generalize evR l at_ = r at *
 obtain ⟨⟨xn,⟨ck,L,ct,V,cq,ci,O,cg⟩,id,xj,qty,xk,xi⟩,r2,r3⟩:=r
 go_enter Tryz.func70,Tryz.ntmps70
 go_wp2_with fail
 generalize (w.alloc (A (yw 0 0 0 0 0 0 0 0 ⟨#[]⟩ 0 0 0 0 0).toArray 52)) = W0 at HR HB HX HZ ⊢
 refine (U HR).mono ?_
 rintro e W1 ⟨rfl,ul⟩
 have hX:=zf (U HX) ul (by rw [U HZ]; omega)
 have qN:=H hX
 have uf:=H (gu (U HB) ul)
 have z0:=R hX 0 rfl
 have f0:=zd hX 0 (by decide)
 have z1:=R hX 1 rfl
 have f1:=zd hX 1 (by decide)
 have z2:=R hX 2 rfl
 have f2:=zd hX 2 (by decide)
 have z3:=R hX 3 rfl
 have f3:=zd hX 3 (by decide)
 have z4:=R hX 4 rfl
 have f4:=zd hX 4 (by decide)
 have z5:=R hX 5 rfl
 have f5:=zd hX 5 (by decide)
 have z6:=R hX 6 rfl
 have f6:=zd hX 6 (by decide)
 have z7:=R hX 7 rfl
 have f7:=zd hX 7 (by decide)
 have z8:=R hX 8 rfl
 have f8:=zd hX 8 (by decide)
 have z9:=R hX 9 rfl
 have f9:=zd hX 9 (by decide)
 have oq:=R hX 10 rfl
 have f10:=zd hX 10 (by decide)
 have oM:=R hX 11 rfl
 have f11:=zd hX 11 (by decide)
 have oN:=R hX 12 rfl
 have f12:=zd hX 12 (by decide)
 have oO:=R hX 13 rfl
 have f13:=zd hX 13 (by decide)
 unfold tupE evV
 simp only
 clear ul hX HR HX HZ
 go_wp2_with fail
 rw [set14]
 have xT:=H (zu (us:=(yw xn ck L ct V cq ci O cg id xj qty xk xi)) (U qN) rfl)
 have HBF:=H (zh w.heap.size yb (yw xn ck L ct V cq ci O cg id xj qty xk xi) 0 W1 (U uf))
 clear z0 f0 z1 f1 z2 f2 z3 f3 z4 f4 z5 f5 z6 f6 z7 f7 z8 f8 z9 f9 oq f10 oM f11 oN f12 oO f13 qN uf
 generalize (W1.setCells w.heap.size 0 (yw xn ck L ct V cq ci O cg id xj qty xk xi)) = WF at xT HBF ⊢
 obtain ⟨d0,d1,d2,d3,d4,d5,d6,d7,d8,d9,kN,ox,oy,oz⟩:=yz (U xT)
 refine bodyPost_ret (v:=tupE ⟨xn,⟨ck,L,ct,V,cq,ci,O,cg⟩,id,xj,qty,xk,xi⟩ (r2,r3)) ?_ rfl ⟨rfl,U HBF⟩
 simp [results,Tryz.f70,go_sem,d0,d1,d2,d3,d4,d5,d6,d7,d8,d9,kN,ox,oy,oz,tupE,evV]
theorem ite_okb (p:Prop) [Decidable p] (b:Bool) (W:World):(if p then Result.ok (Value.bool b) W else Result.ok (Value.bool false) W) = Result.ok (Value.bool (decide p && b)) W:=by
 split <;> simp_all
theorem eqVlE (a b:Ev) (W:World):(binOp .eql 119 (vlV a) (vlV b)).run Tryz.prog W = .ok (.bool (sameE a b)) W:=by
 obtain ⟨ak,⟨a1,a2,a3,a4,a5,a6,a7,a8⟩,a9,a10,a11,a12,a13⟩:=a
 obtain ⟨bk,⟨b1,b2,b3,b4,b5,b6,b7,b8⟩,b9,b10,b11,qC,b13⟩:=b
 unfold vlV
 simp only
 go_simp
 unfold sameE
 simp only
 have h7:((fbit a7:Int) = fbit b7) ↔ fbit a7 = fbit b7:=by omega
 simp only [h7,ite_okb,Bool.and_true]
 rfl
theorem eqGdE (a b:Ev) (W:World):(eqGuard .eql 119 (.tmp 22) (.tmp 24) (vlV a) (vlV b)).run Tryz.prog W = .ok () W:=by
 unfold vlV
 go_simp
theorem implOK_any (e:Ev) (he:e.fit) (w:World) (hE:ErrT w):Calls Tryz.prog 39 #[evV e] w fun r w'=>r = .returned (.bool (okE e))∧yp w w':=by
 have hsf:=sfl
 obtain ⟨xC,uD⟩:=gw w e.vs 52
 have qU:Hid ((w.alloc (Obj.cells e.vs.toArray 52)).heap.size = w.heap.size + 1):=by show _ = _; simp
 have HE1:=H (dh hE xC yb)
 have uf:=H xC
 have HAD:=H (fun (hk:1 ≤ e.kind∧e.kind ≤ 9) W=>addEvent_any e he hk W.heap.size (.slice none 0 0) [] W yb (World.ownsRow_nil _ _ _ _) (by simp))
 have jr:=H (fun (hk:1 ≤ e.kind∧e.kind ≤ 9)=>evA_wr e he ((shF_ne e.kind).2 hk) [])
 have HLN:=H (evL_len e he)
 have HBT:=H (evL_bts e)
 have HQ:=H (fun (hk:1 ≤ e.kind∧e.kind ≤ 9)=>okE_eq e hk)
 have HNO:Hid (¬ (1 ≤ e.kind∧e.kind ≤ 9)→okE e = false):=fun h=>by
  unfold okE
  rw [if_pos (by unfold fldK; rw [if_neg (by omega),if_neg (by omega),if_neg (by omega),if_neg (by omega),if_neg (by omega)])]
 have HVA:=H (fun W=>fF e W)
 have HVB:=H (fun W=>fF (bkE e) W)
 have HSM:=H (fun W=>eqVlE (bkE e) e W)
 have qw:=H (fun W=>eqGdE (bkE e) e W)
 have jz:=shF_ne e.kind
 clear he xC
 generalize okE e = ok at *
 generalize bkE e = b at *
 generalize evL e = cs at *
 have HVE:Hid (evV e = .agg e.vs.toArray):=rfl
 generalize sameE b e = sm at *
 generalize vlV e = vl at *
 generalize vlV b = vb at *
 obtain ⟨xn,⟨ck,L,ct,V,cq,ci,O,cg⟩,id,xj,qty,xk,xi⟩:=e
 unfold evV at HVA HAD ⊢
 unfold Ev.vs at uD qU HE1 uf
 simp only at HVA HAD uD qU HE1 uf jz jr HBT HQ HNO ⊢
 go_enter Tryz.func39,Tryz.ntmps39
 refine gv fun hR xU=>?_
 go_wp2_with fail
 refine U xU _ _ ?_
 clear xU
 generalize (w.alloc (A (yw xn ck L ct V cq ci O cg id xj qty xk xi).toArray 52)) = W1 at uD qU HE1 uf ⊢
 have x0:=R (U uD) 0 rfl
 go_wp2_with fail
 refine (shape_any xn W1).mono ?_
 rintro r W2 ⟨fv,fs,rfl,hof,hff,xK⟩
 have qd:=(ffs_get hff).1
 obtain ⟨fa,kQ,rfl,hfl,uJ⟩:=hof
 clear hff uJ
 have xw:=H xK
 clear xK
 go_wp2_with fail
 refine (isKind_any (shC xn) fa fs.length kQ W2).mono ?_
 rintro r W3 ⟨rfl,xQ⟩
 have xN:=H (gu (U xw) xQ)
 clear xQ
 by_cases hk:1 ≤ xn∧xn ≤ 9
 ·have qQ:decide (0 < fs.length) = true:=by
   rw [← qd,decide_eq_true_iff]
   exact List.length_pos_iff.2 (jz.2 hk)
  rw [qQ]
  have kH:=zf (U uD) (U xN) (by rw [U qU]; omega)
  have z0:=R kH 0 rfl
  have z1:=R kH 1 rfl
  have z2:=R kH 2 rfl
  have z3:=R kH 3 rfl
  have z4:=R kH 4 rfl
  have z5:=R kH 5 rfl
  have z6:=R kH 6 rfl
  have z7:=R kH 7 rfl
  have z8:=R kH 8 rfl
  have z9:=R kH 9 rfl
  have oq:=R kH 10 rfl
  have oM:=R kH 11 rfl
  have oN:=R kH 12 rfl
  have oO:=R kH 13 rfl
  have uS:=H kH
  have HW3:=H ((U uf).trans ((U xN).mono (U uf).size))
  have HE3:=H (dh (U HE1) (U xN) yb)
  have HAD3:=H (U HAD hk W3)
  have hz3:w.heap.size < W3.heap.size:=by have:=(U xN).size; rw [U qU] at this; omega
  clear kH qQ xw xN uD HE1 uf qd hfl x0
  go_wp2_with fail
  refine (U HAD3).mono ?_
  rintro r W4 ⟨v4,rfl,hr4,kZ,hq4⟩
  rw [List.nil_append] at hr4
  have jt:=U HLN
  have pw:=bRow_own hr4 jt.1 (by omega)
  have xy:yp W3 W4:=⟨kZ.os,kZ.tape,kZ.output,kZ.size,fun i hi=>kZ.block i hi (by simp [Value.ownBlock])⟩
  have HDC:=H (implDecode_any v4 cs 0 W4 (own_rd pw.own) (capOk_own pw) (U HBT hk) (dh (U HE3) xy yb))
  have jk:evR cs 0 = (b,((cs.length:Nat):Int),0):=evR_some (k:=0) (by omega) (by omega) (by have:=U jr hk; rwa [List.append_nil] at this)
  rw [jk] at HDC
  have xG:=H (zf (U uS) xy hz3)
  have kG:=H (gu (U HW3) xy)
  have hz4:w.heap.size < W4.heap.size:=yK hz3 xy.size
  clear hr4 kZ hq4 pw xy jk HE3 HAD3 uS HW3 hz3 z0 z1 z2 z3 z4 z5 z6 z7 z8 z9 oq oM oN oO
  go_wp2_with fail
  refine (U HDC).mono ?_
  rintro r W5 ⟨rfl,ui⟩
  unfold tupE
  have hX5:=zf (U xG) ui hz4
  have HW5:=H (gu (U kG) ui)
  have hz5:w.heap.size < W5.heap.size:=yK hz4 ui.size
  obtain ⟨kD,⟨ck',cs',ct',cl',cq',ci',cp',cg'⟩,id',jd,aN,je,qv⟩:=b
  unfold evV at HVB ⊢
  simp only at HVB ⊢
  have oF:=gp W5 (A (yw kD ck' cs' ct' cl' cq' ci' cp' cg' id' jd aN je qv).toArray 52)
  have pI:Hid (Bx (W5.alloc (A (yw kD ck' cs' ct' cl' cq' ci' cp' cg' id' jd aN je qv).toArray 52)) W5.heap.size (yw kD ck' cs' ct' cl' cq' ci' cp' cg' id' jd aN je qv)):=zq W5 (yw kD ck' cs' ct' cl' cq' ci' cp' cg' id' jd aN je qv) 52
  have vA:=H (zf hX5 oF hz5)
  have HW6:=H (gu (U HW5) oF)
  have HZ6:Hid ((W5.alloc (A (yw kD ck' cs' ct' cl' cq' ci' cp' cg' id' jd aN je qv).toArray 52)).heap.size = W5.heap.size + 1):=by show _ = _; simp
  clear ui oF hX5 xG kG HW5 hz4 HDC
  go_wp2_with fail
  generalize (W5.alloc (A (yw kD ck' cs' ct' cl' cq' ci' cp' cg' id' jd aN je qv).toArray 52)) = W6 at pI vA HW6 HZ6 ⊢
  have HCB:Hid (Calls Tryz.prog 72 #[.agg (yw kD ck' cs' ct' cl' cq' ci' cp' cg' id' jd aN je qv).toArray] W6.drew fun r W7=>r = .returned vb∧Bx W7 w.heap.size (yw xn ck L ct V cq ci O cg id xj qty xk xi)∧yp w W7):=by
   refine (U HVB W6.drew).mono ?_
   rintro r W7 ⟨rfl,qu⟩
   exact ⟨rfl,zf (zK (U vA)) qu (by show w.heap.size < W6.heap.size; rw [U HZ6]; omega),(U HW6).drew.trans (qu.mono (U HW6).drew.size)⟩
  obtain ⟨x0,x1,x2,x3,x4,x5,x6,x7,x8,x9,ka,kc,ke,kf⟩:=yz (U vA)
  obtain ⟨y0,y1,y2,y3,y4,y5,y6,y7,y8,y9,y10,y11,y12,y13⟩:=yz (U pI)
  have hsm:=fun W=>U HSM W
  have hgd:=fun W=>U qw W
  have HQQ:=H (U HQ hk)
  clear pI vA HVB
  go_region_with (go_at_call 72; first | (with_reducible refine (U HCB).mono ?_; rintro r W7 ⟨rfl,au,hW7⟩; have HW7:=H hW7; have g0:=R au 0 rfl; have g1:=R au 1 rfl; have g2:=R au 2 rfl; have g3:=R au 3 rfl; have g4:=R au 4 rfl; have g5:=R au 5 rfl; have g6:=R au 6 rfl; have g7:=R au 7 rfl; have g8:=R au 8 rfl; have g9:=R au 9 rfl; have qy:=R au 10 rfl; have vI:=R au 11 rfl; have ua:=R au 12 rfl; have qP:=R au 13 rfl; clear au hW7) | (refine (U HVA _).mono ?_; rintro r W8 ⟨rfl,hb8⟩; have HW8:=H (gu (U HW7) hb8); clear hb8))
  all_goals try go_wp2_with fail
  all_goals
   refine bodyPost_ret (v:=.bool sm) ?_ rfl ⟨by rw [U HQQ],U HW8⟩
   simp [results,Tryz.f39,go_sem]
 ·have qQ:decide (0 < fs.length) = false:=by
   rw [← qd,decide_eq_false_iff_not]
   intro h
   exact hk (jz.1 (List.length_pos_iff.1 h))
  rw [qQ]
  go_wp2_with fail
  go_ret
  exact ⟨by rw [U HNO hk]; rfl,(U uf).trans ((U xN).mono (U uf).size)⟩
theorem allRight_any (v:Value) (l:List Ev) (w:World) (hr:RdR Ev.vs 14 w v l) (hf:∀ e ∈ l,e.fit) (hE:ErrT w):Calls Tryz.prog 57 #[v] w fun r w'=>r = .returned (.bool (l.all okE))∧yp w w':=by
 have hsf:=sfl
 have HE:=H hE
 obtain ⟨a,cap,rfl,hl,hc⟩:=hr
 have HC:=H hc
 have HF:=H hf
 clear hc hf hE
 go_enter Tryz.func57,Tryz.ntmps57
 go_wp2_with fail
 go_loopw [7] (fun iv wr=>∃ k:Nat,k ≤ l.length∧iv = I k∧(l.take k).all okE = true∧yp w wr) (fun iv _=>l.length - (intOf iv).toNat)
 case atStart=>exact ⟨0,Nat.zero_le _,rfl,rfl,Below.refl _ _⟩
 case round =>
  obtain ⟨k,hk,rfl,E,Q⟩:=hrel
  have HB:=H Q
  have HA:=H E
  clear Q E
  by_cases xI:k < l.length
  ·obtain ⟨e,jz⟩:∃ e,l[k]? = some e:=⟨_,yI xI⟩
   obtain ⟨b,off,rfl,kr,xW⟩:=U HC (by intro h; rw [h] at xI; simp at xI)
   have F:=zc (xW k e jz) (U HB) kr
   have uF:(k:Int) < l.length:=by omega
   have kt:=U HF e (yP jz)
   have qD:=gp wr (Obj.cells e.vs.toArray 52)
   have xw:=H (gu (U HB) qD)
   have HO:=H (implOK_any e kt (wr.alloc (Obj.cells e.vs.toArray 52)) (dh (U HE) (U xw) yb))
   have HT:Hid ((l.take (k + 1)).all okE = ((l.take k).all okE && okE e)):=by
    show (l.take (k + 1)).all okE = _
    rw [List.take_add_one,jz]
    simp
   have HNo:Hid (okE e = false→l.all okE = false):=fun h=>List.all_eq_false.2 ⟨e,yP jz,by rw [h]; decide⟩
   generalize okE e = ok at *
   obtain ⟨xn,⟨ck,L,ct,V,cq,ci,O,cg⟩,id,xj,qty,xk,xi⟩:=e
   unfold evV at HO
   unfold Ev.vs at HO xw
   simp only at HO xw
   have x0:wr.cell? (D b (off + k * 14)) = _:=F 0 _ rfl
   have x1:=F 1 _ rfl
   have x2:=F 2 _ rfl
   have x3:=F 3 _ rfl
   have x4:=F 4 _ rfl
   have x5:=F 5 _ rfl
   have x6:=F 6 _ rfl
   have x7:=F 7 _ rfl
   have x8:=F 8 _ rfl
   have x9:=F 9 _ rfl
   have ka:=F 10 _ rfl
   have kc:=F 11 _ rfl
   have ke:=F 12 _ rfl
   have kf:=F 13 _ rfl
   clear F xW jz kt qD
   go_wp2_with fail
   refine (U HO).mono ?_
   rintro r W3 ⟨rfl,xQ⟩
   have xN:=H (gu (U xw) xQ)
   clear xQ x0 x1 x2 x3 x4 x5 x6 x7 x8 x9 ka kc ke kf
   cases ok with
   | true =>
    go_wp2_with fail
    go_roundw
    case rel=>exact ⟨k + 1,by omega,by go_num,by rw [U HT,U HA]; rfl,U xN⟩
    case measure=>simp [intOf]; omega
   | false =>
    have HNN:=H (U HNo rfl)
    go_wp2_with fail
    go_ret
    exact ⟨by rw [U HNN]; rfl,U xN⟩
  ·have pd:k = l.length:=by omega
   have HY:Hid (l.all okE = true):=by
    have:=U HA
    rwa [pd,List.take_length] at this
   go_wp2_with fail
   go_ret
   exact ⟨by rw [U HY]; rfl,U HB⟩
def brV (k:Int):Value:=.iface 121 (I k)
def brk (k:Int):List PanicEntry:=[{ v:=.iface 121 (I k),recovered:=false }]
theorem co (k:Int) (w:World):Calls Tryz.prog 133 #[.bool true,I k] w fun e w'=>e = .returned (.tuple #[])∧w' = w:=by
 go_enter Tryz.func133,Tryz.ntmps133
 go_wp2_with fail
 go_end0
 exact ⟨rfl,rfl⟩
theorem bU (k:Int) (w:World):Calls Tryz.prog 133 #[.bool false,I k] w fun e w'=>e = .panicked (brk k)∧w' = w:=by
 go_enter Tryz.func133,Tryz.ntmps133
 go_wp2
 exact ⟨rfl,rfl,rfl⟩
theorem isJust_any (e:Ev) (d:Du) (w:World):Calls Tryz.prog 139 #[evV e,duV d] w fun r w'=>r = .returned (.bool (bC e d))∧yp w w':=by
 have hsf:=sfl
 obtain ⟨xn,⟨ck,L,ct,V,cq,ci,O,cg⟩,id,xj,qty,xk,xi⟩:=e
 obtain ⟨dk,di,dot,dq,dp⟩:=d
 unfold evV duV
 simp only
 by_cases N:xn = dk
 ·have b1:(xn == dk) = true:=by simpa using N
  by_cases Y:id = di
  ·have b2:(id == di) = true:=by simpa using Y
   have X:bC ⟨xn,⟨ck,L,ct,V,cq,ci,O,cg⟩,id,xj,qty,xk,xi⟩ ⟨dk,di,dot,dq,dp⟩ = (qty == dq):=by simp [bC,b1,b2]
   rw [X]
   clear X N Y
   go_enter Tryz.func139,Tryz.ntmps139
   go_wp2_with fail
   go_ret
   exact ⟨rfl,by go_grown⟩
  ·have b2:(id == di) = false:=by simpa using Y
   have X:bC ⟨xn,⟨ck,L,ct,V,cq,ci,O,cg⟩,id,xj,qty,xk,xi⟩ ⟨dk,di,dot,dq,dp⟩ = false:=by simp [bC,b1,b2]
   rw [X]
   clear X N Y
   go_enter Tryz.func139,Tryz.ntmps139
   go_wp2_with fail
   go_ret
   exact ⟨rfl,by go_grown⟩
 ·have b1:(xn == dk) = false:=by simpa using N
  have X:bC ⟨xn,⟨ck,L,ct,V,cq,ci,O,cg⟩,id,xj,qty,xk,xi⟩ ⟨dk,di,dot,dq,dp⟩ = false:=by simp [bC,b1]
  rw [X]
  clear X N
  go_enter Tryz.func139,Tryz.ntmps139
  go_wp2_with fail
  go_ret
  exact ⟨rfl,by go_grown⟩
theorem toldCmd_any (e:Ev) (w:World) (hk:1 ≤ e.kind∧e.kind ≤ 9):Calls Tryz.prog 174 #[evV e] w fun r w'=>r = .returned (.tuple #[cmV (bA e),.bool (zQ e.kind)])∧yp w w':=by
 have hsf:=sfl
 obtain ⟨xn,⟨ck,L,ct,V,cq,ci,O,cg⟩,id,xj,qty,xk,xi⟩:=e
 simp only at hk
 unfold evV bA cmV zCm zQ
 simp only
 rcases (show xn = 1 ∨ xn = 2 ∨ xn = 3 ∨ xn = 4 ∨ xn = 5 ∨ xn = 6 ∨ xn = 7 ∨ xn = 8 ∨ xn = 9 by omega) with rfl | rfl | rfl | rfl | rfl | rfl | rfl | rfl | rfl
 all_goals
  clear hk
  simp
  go_enter Tryz.func174,Tryz.ntmps174
  go_wp2_with fail
  go_returns
  exact ⟨rfl,by go_grown⟩
def mI (k:Int) (f:FuncId) (b:Nat):MapEntry:={ key:=I k,val:=.func (.func f) #[] #[],born:=b }
def chkM:Array MapEntry:=#[mI 1 87 0,mI 2 88 1,mI 3 89 2,mI 4 90 3,mI 5 91 4,mI 6 92 5,mI 7 93 6,mI 8 94 7,mI 9 95 8]
def gsV (r:Nat) (vq:Value) (g:Gr):List Value:=[.map (some r),I g.nx,vq,I g.bg,I g.cm.s,I g.cm.t,I g.cm.l,I g.cm.q,yk g.cm.p,yl g.cm.g,I g.tk.id,I g.tk.side,I g.tk.ticks,I g.tk.left,I g.tk.life,yl g.tk.tag]
structure GS (G B r:Nat) (W:World) (vq:Value) (g:Gr):Prop where
 box:Bx W G (gsV r vq g)
 row:ORow W B vq g.l
 typ:∃ cur,W.heap[G]? = some (.cells cur 87 (0,0))
 mp:W.heap[r]? = some (.map chkM 9)
 hG:B ≤ G
 hr:B ≤ r
section
variable {G B r:Nat} {w W W':World} {vq uH:Value} {g g':Gr}
theorem GS.lt (h:GS G B r W vq g):G < W.heap.size:=by
 obtain ⟨xF,hc⟩:=h.typ
 exact (yZ.1 hc).1
theorem GS.rlt (h:GS G B r W vq g):r < W.heap.size:=(yZ.1 h.mp).1
theorem GS.ne (h:GS G B r W vq g):r ≠ G:=by
 rintro rfl
 obtain ⟨xF,hc⟩:=h.typ
 rw [h.mp] at hc
 cases hc
theorem GS.nq (h:GS G B r W vq g):some G ≠ vq.ownBlock:=cQ h.row h.typ (by decide)
theorem GS.nr (h:GS G B r W vq g):some r ≠ vq.ownBlock:=by
 rcases h.row.2 with ⟨N,_⟩ | ⟨b,cap,xF,N,_,h3,_⟩
 ·rw [N]; simp [Value.ownBlock]
 ·rw [N]
  intro e
  simp only [Value.ownBlock,Option.some.injEq] at e
  rw [← e,h.mp] at h3
  cases h3
theorem zA (h:GS G B r W vq g) (Q:yp W W'):GS G B r W' vq g :=
 ⟨zf h.box Q h.lt,zO h.row Q,by obtain ⟨xF,hc⟩:=h.typ; exact ⟨xF,(Q.block G h.lt).trans hc⟩,(Q.block r h.rlt).trans h.mp,h.hG,h.hr⟩
theorem gs_set (h:GS G B r W vq g) (j:Nat) (u:Value) (X:j < 16) (he:gsV r vq g' = (gsV r vq g).set j u) (hl:g'.l = g.l):GS G B r (W.setCell (D G j) u) vq g' :=
 ⟨by rw [he]; exact bH h.box X,by rw [hl]; exact bN h.row h.nq j u,by obtain ⟨xF,hc⟩:=h.typ; exact cI W G j u hc,(yT _ _ _ _ h.ne).trans h.mp,h.hG,h.hr⟩
theorem gs_took {l':List Od} (h:GS G B r W vq g) (hc:W'.cell? (D G 2) = some uH) (Z:ORow W' B uH l') (ht:TookAt G 1 vq.ownBlock W W'):GS G B r W' uH { g with l:=l' }:=by
 refine ⟨⟨fun j u X=>?_,fun j X=>⟨?_,?_⟩⟩,Z,by obtain ⟨xF,hc⟩:=h.typ; exact ht.kind _ _ _ hc,(ht.block r h.rlt h.ne h.nr).trans h.mp,h.hG,h.hr⟩
 ·rw [Nat.zero_add]
  by_cases Y:j = 2
  ·subst Y; cases X; exact hc
  ·rw [ht.cell j Y]
   refine R h.box j ?_
   unfold gsV at X ⊢
   match j,X,Y with
   | 0,X,_=>exact X
   | 1,X,_=>exact X
   | 2,X,Y=>exact absurd rfl Y
   | j + 3,X,_=>exact X
 ·rw [Nat.zero_add]
  by_cases Y:j = 2
  ·subst Y; rw [hc]; rfl
  ·rw [ht.cell j Y]
   have:=(h.box.t j (by simpa [gsV] using X)).1
   rwa [Nat.zero_add] at this
 ·rw [ht.frozen]
  exact (h.box.t j (by simpa [gsV] using X)).2
theorem below_setG {C:Nat} (Q:Below C w W) (hC:C ≤ B) (h:GS G B r W vq g) (j:Nat) (u:Value):Below C w (W.setCell (D G j) u) :=
 ⟨Q.os,Q.tape,Q.output,by have:=Q.size; simpa [World.setCell] using this,fun k hk=>by
  rw [yT _ _ _ _ (by show k ≠ G; have:=h.hG; omega)]
  exact Q.block k hk⟩
end
theorem fdyF_find:∀ (l:List Od) (k:Nat),(fdyF l k = -1∧l.find? isDy = none) ∨ ∃ (i:Nat) (o:Od),fdyF l k = ((k + i:Nat):Int)∧l[i]? = some o∧l.find? isDy = some o
 | [],_=>.inl ⟨rfl,rfl⟩
 | a :: r,k=>by
  by_cases h:a.life = 1
  ·exact .inr ⟨0,a,by rw [fdyF,if_pos h,Nat.add_zero],rfl,by simp [isDy,h]⟩
  ·rcases fdyF_find r (k + 1) with ⟨N,Y⟩ | ⟨i,o,N,Y,h3⟩
   ·exact .inl ⟨by rw [fdyF,if_neg h,N],by simp [isDy,h]; simpa [isDy] using Y⟩
   ·exact .inr ⟨i + 1,o,by rw [fdyF,if_neg h,N]; congr 1; omega,by simpa using Y,by rw [List.find?_cons_of_neg (by simpa [isDy] using h)]; exact h3⟩
theorem fdy_find (l:List Od):(fdy l = -1∧l.find? isDy = none) ∨ ∃ (i:Nat) (o:Od),fdy l = i∧l[i]? = some o∧l.find? isDy = some o:=by
 rcases fdyF_find l 0 with h | ⟨i,o,N,Y,h3⟩
 ·exact .inl h
 ·exact .inr ⟨i,o,by rw [fdy,N,Nat.zero_add],Y,h3⟩
theorem dayDue_any {G B r:Nat} {vq:Value} {g:Gr} (w:World) (h:GS G B r w vq g) (hn:g.l.length ≤ 1000):Calls Tryz.prog 60 #[J G 0] w fun e w'=>e = .returned (duV (dayD g.l))∧yp w w':=by
 have hG:=h.lt
 obtain ⟨xC,HX⟩:=gw w [I 0,I 0,I 0,I 0,I 0] 29
 have HS:Hid ((w.alloc (A #[I 0,I 0,I 0,I 0,I 0] 29)).heap.size = w.heap.size + 1):=by show _ = _; simp
 have HG:=H (zA h xC)
 have HB:=H xC
 clear h xC
 obtain ⟨nx,l,bg,cm,tk⟩:=g
 simp only at hn ⊢
 go_enter Tryz.func60,Tryz.ntmps60
 refine gv fun hR HK=>?_
 go_wp2_with fail
 refine U HK _ _ ?_
 clear HK
 generalize (w.alloc (A #[I 0,I 0,I 0,I 0,I 0] 29)) = W1 at HX HS HG HB ⊢
 have c2:W1.cell? (D G 2) = some vq:=R (U HG).box 2 rfl
 have uQ:=H (zI (U HG).row (yO hn (by decide)))
 go_wp2_with fail
 refine (indexDay_any vq l W1 (U uQ)).mono ?_
 rintro e w2 ⟨rfl,xK⟩
 have uh:=H (zA (U HG) xK)
 have hz:=U HS
 have xJ:=H (zf (U HX) xK (by omega))
 have xw:=H (gu (U HB) xK)
 have z0:=R (U xJ) 0 rfl
 have z1:=R (U xJ) 1 rfl
 have z2:=R (U xJ) 2 rfl
 have z3:=R (U xJ) 3 rfl
 have z4:=R (U xJ) 4 rfl
 have f0:=zd (U xJ) 0 (by decide)
 have f1:=zd (U xJ) 1 (by decide)
 have f2:=zd (U xJ) 2 (by decide)
 have f3:=zd (U xJ) 3 (by decide)
 have f4:=zd (U xJ) 4 (by decide)
 have HRD2:=H (zI (U uh).row (yO hn (by decide)))
 clear c2 xK hz HX HS HG HB uQ
 rcases fdy_find l with ⟨N,Y⟩ | ⟨i,o,N,Y,h3⟩
 ·have HD:Hid (dayD l = zDu):=by show _ = _; unfold dayD; rw [Y]
  rw [N]
  clear N Y
  go_wp2_with fail
  try simp (config:={ zetaDelta:=true }) only [Exit.noGoto_ret]
  change bodyPost _ _ _ _ _ (World.setCells w2 w.heap.size 0 [I 0,I 0,I 0,I 0,I 0])
  have xp:Hid ((World.setCells w2 w.heap.size 0 [I 0,I 0,I 0,I 0,I 0]).rangeAt w.heap.size 0 [I 0,I 0,I 0,I 0,I 0]∧yp w (World.setCells w2 w.heap.size 0 [I 0,I 0,I 0,I 0,I 0])):=⟨(zu (U xJ) (by simp only [List.length_cons,List.length_nil])).r,zh w.heap.size yb [I 0,I 0,I 0,I 0,I 0] 0 w2 (U xw)⟩
  generalize World.setCells w2 w.heap.size 0 [I 0,I 0,I 0,I 0,I 0] = WE at xp ⊢
  obtain ⟨d0,d1,d2,d3,d4⟩:=yC (U xp).1
  try simp only [Exit.inBlock,Exit.then]
  refine bodyPost_ret (by simp [results,Tryz.results60,go_sem,d0,d1,d2,d3,d4]; try rfl) rfl ?_
  exact ⟨by rw [U HD]; rfl,(U xp).2⟩
 ·have HD:Hid (dayD l = ⟨9,o.id,0,o.left,0⟩):=by show _ = _; unfold dayD; rw [h3]
  obtain ⟨a,cap,rfl,hl,hc⟩:=U HRD2
  obtain ⟨b,off,rfl,kr,F⟩:=hc (by rintro rfl; simp at Y)
  obtain ⟨y0,-,-,y3,-,-⟩:=zB (F i o Y)
  have hil:(i:Int) < l.length:=by have:=(yH.1 Y).1; omega
  have vC:¬ ((i:Int) < 0):=by omega
  have hi0':(0:Int) ≤ i:=by omega
  have c2:w2.cell? (D G 2) = some (.slice (some (D b off)) l.length cap):=R (U uh).box 2 rfl
  rw [N]
  clear N Y h3 hc F HRD2
  go_wp2_with fail
  refine zF 19 (by kernel_rfl) (by kernel_rfl) ?_
  simp only [yU,List.take_zero,yV,List.drop_zero]
  have c2d:w2.drew.cell? (D G 2) = some (.slice (some (D b off)) l.length cap):=c2
  have y0d:w2.drew.cell? (D b (off + i * 6)) = some (I o.id):=y0
  have y3d:w2.drew.cell? (D b (off + i * 6 + 3)) = some (I o.left):=y3
  have HB2d:Hid (yp w w2.drew):=⟨(U xw).os,(U xw).tape,(U xw).output,(U xw).size,(U xw).block⟩
  repeat still_step
  refine wpStill_nil ?_
  have jM:Hid (Bx w2.drew w.heap.size [I 0,I 0,I 0,I 0,I 0]):=zK (U xJ)
  clear c2d y0d y3d c2 y0 y3 z0 z1 z2 z3 z4 f0 f1 f2 f3 f4 xJ uh xw
  generalize w2.drew = W3 at jM HB2d ⊢
  have z0:=R (U jM) 0 rfl
  have z1:=R (U jM) 1 rfl
  have z2:=R (U jM) 2 rfl
  have z3:=R (U jM) 3 rfl
  have z4:=R (U jM) 4 rfl
  have f0:=zd (U jM) 0 (by decide)
  have f1:=zd (U jM) 1 (by decide)
  have f2:=zd (U jM) 2 (by decide)
  have f3:=zd (U jM) 3 (by decide)
  have f4:=zd (U jM) 4 (by decide)
  go_wp2_with fail
  try simp (config:={ zetaDelta:=true }) only [Exit.noGoto_ret]
  change bodyPost _ _ _ _ _ (World.setCells W3 w.heap.size 0 [I 9,I o.id,I 0,I o.left,I 0])
  have xp:Hid ((World.setCells W3 w.heap.size 0 [I 9,I o.id,I 0,I o.left,I 0]).rangeAt w.heap.size 0 [I 9,I o.id,I 0,I o.left,I 0]∧yp w (World.setCells W3 w.heap.size 0 [I 9,I o.id,I 0,I o.left,I 0])):=⟨(zu (U jM) (by simp only [List.length_cons,List.length_nil])).r,zh w.heap.size yb [I 9,I o.id,I 0,I o.left,I 0] 0 W3 (U HB2d)⟩
  generalize World.setCells W3 w.heap.size 0 [I 9,I o.id,I 0,I o.left,I 0] = WE at xp ⊢
  obtain ⟨d0,d1,d2,d3,d4⟩:=yC (U xp).1
  try simp only [Exit.inBlock,Exit.then]
  refine bodyPost_ret (by simp [results,Tryz.results60,go_sem,d0,d1,d2,d3,d4]; try rfl) rfl ?_
  exact ⟨by rw [U HD]; rfl,(U xp).2⟩
end Go.Proofs.YtnphbkgfjanmgaaGreatDoor
