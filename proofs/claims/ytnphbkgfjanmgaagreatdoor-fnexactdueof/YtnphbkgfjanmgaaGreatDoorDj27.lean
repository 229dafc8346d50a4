/-
  What the reading of an event at a place answers, proved by walking it: the program's DecodeEvent.
-/
import Derived.Test.YtnphbkgfjanmgaaGreatDoorDj26
set_option linter.unusedVariables false
set_option maxHeartbeats 6400000
set_option maxRecDepth 100000
namespace Go.Proofs.YtnphbkgfjanmgaaGreatDoor
open Go.RowKit
theorem readE_any (v:Value) (l:List Int) (at_:Int) (w:World) (xO:Rd w v l) (uq:CapOk v) (E:Bts l) (hE:ErrT w) :
  Calls Tryz.prog 121 #[v,I at_,.func (.func 122) #[] #[]] w fun e w'=>e = .returned (tupE (evR l at_).1 (evR l at_).2)∧yp w w':=by
 obtain ⟨a,cap,hv⟩:=rd_len xO
 by_cases N:65536 < l.length
 ·rw [evR_long N]
  refine eZ v l.length a cap hv at_ 2 w hE fun w0 hw0=>?_
  subst hw0
  have hr:=(rdE_box w v at_).2.1
  subst hv
  exact tryE_check (w.heap.size + 1) a l.length cap at_ 2 _ hr fun w0 h=>check_long _ at_ a l.length cap w0 h N
 by_cases Y:at_ < 0 ∨ (l.length:Int) < at_
 ·rw [evR_out N Y]
  refine eZ v l.length a cap hv at_ 5 w hE fun w0 hw0=>?_
  subst hw0
  have hr:=(rdE_box w v at_).2.1
  subst hv
  exact tryE_check (w.heap.size + 1) a l.length cap at_ 5 _ hr fun w0 h=>check_out _ at_ a l.length cap w0 h Y (by omega)
 obtain ⟨k,rfl⟩:=Int.eq_ofNat_of_zero_le (show 0 ≤ at_ by omega)
 have hk:k ≤ l.length:=by omega
 obtain ⟨_,hr,xl,hz⟩:=rdE_box w v (k:Int)
 have hev:∀ w0,Below (w.heap.size + 2) ((w.alloc (L (yw 0 0 0 0 0 0 0 0 ⟨#[]⟩ 0 0 0 0 0).toArray 52)).alloc (L #[v,I (k:Int)] 182)) w0→Calls Tryz.prog 122 #[.pointer (some ⟨w.heap.size + 1,0,none⟩)] w0 fun e w'=>EvEnd (w.heap.size + 1) v w0 (evA l k) e w':=fun w0 xz =>
  event_any w (w.heap.size + 1) v l k w0 ⟨xO,uq,Nat.le_succ _,xl.trans (xz.mono (by omega)),dO hr xz (by omega),hk,by omega,E⟩
 cases hg:evA l k with
 | none =>
  rw [evR_none N hk hg]
  refine eZ v l.length a cap hv k 3 w hE fun w0 hw0=>?_
  subst hw0
  rw [hg] at hev
  subst hv
  exact tryE_fail (w.heap.size + 1) a l.length cap k 3 _ hr (by omega) (by omega) (by omega) fun w0 h=>(hev w0 (by rw [hz] at h; exact h)).mono fun e w' h=>⟨h.1,h.2.2 rfl⟩
 | some r =>
  obtain ⟨x,n⟩:=r
  rw [evR_some N hk hg]
  refine readE_fine v l.length a cap hv k x n w fun w0 hw0=>?_
  subst hw0
  rw [hg] at hev
  subst hv
  exact tryE_ok (w.heap.size + 1) a l.length cap k x n _ hr (by omega) (by omega) (by omega) fun w0 h=>(hev w0 (by rw [hz] at h; exact h)).mono fun e w' h=>⟨h.1,(h.2.1 x n rfl).1,(h.2.1 x n rfl).2⟩
theorem implDecode_any (v:Value) (l:List Int) (at_:Int) (w:World) (xO:Rd w v l) (uq:CapOk v) (E:Bts l) (hE:ErrT w) :
  Calls Tryz.prog 70 #[v,I at_] w fun e w'=>e = .returned (tupE (evR l at_).1 (evR l at_).2)∧yp w w':=by
 have hsf:=sfl
 have qw:=fw w (L (yw 0 0 0 0 0 0 0 0 ⟨#[]⟩ 0 0 0 0 0).toArray 52)
 have HR:=H (readE_any v l at_ _ (rd_below xO qw yb) uq E (cy hE qw yb))
 have HB:=H qw
 have HX:Hid (Bx (w.alloc (L (yw 0 0 0 0 0 0 0 0 ⟨#[]⟩ 0 0 0 0 0).toArray 52)) w.heap.size (yw 0 0 0 0 0 0 0 0 ⟨#[]⟩ 0 0 0 0 0)):=zq w (yw 0 0 0 0 0 0 0 0 ⟨#[]⟩ 0 0 0 0 0) 52
 have HZ:Hid ((w.alloc (L (yw 0 0 0 0 0 0 0 0 ⟨#[]⟩ 0 0 0 0 0).toArray 52)).heap.size = w.heap.size + 1):=by show _ = _; simp
 obtain ⟨a,cap,rfl⟩:=rd_len xO
 clear xO uq E hE qw
 generalize evR l at_ = r at *
 obtain ⟨⟨xn,⟨ck,A,ct,F,cq,ci,O,cg⟩,id,xj,qty,xk,xi⟩,r2,r3⟩:=r
 go_enter Tryz.func70,Tryz.ntmps70
 go_wp2_with fail
 generalize (w.alloc (L (yw 0 0 0 0 0 0 0 0 ⟨#[]⟩ 0 0 0 0 0).toArray 52)) = W0 at HR HB HX HZ ⊢
 refine (U HR).mono ?_
 rintro e W1 ⟨rfl,uk⟩
 have hX:=zf (U HX) uk (by rw [U HZ]; omega)
 have qG:=H hX
 have ue:=H (fC (U HB) uk)
 have z0:=K hX 0 rfl
 have f0:=zd hX 0 (by decide)
 have z1:=K hX 1 rfl
 have f1:=zd hX 1 (by decide)
 have z2:=K hX 2 rfl
 have f2:=zd hX 2 (by decide)
 have z3:=K hX 3 rfl
 have f3:=zd hX 3 (by decide)
 have z4:=K hX 4 rfl
 have f4:=zd hX 4 (by decide)
 have z5:=K hX 5 rfl
 have f5:=zd hX 5 (by decide)
 have z6:=K hX 6 rfl
 have f6:=zd hX 6 (by decide)
 have z7:=K hX 7 rfl
 have f7:=zd hX 7 (by decide)
 have z8:=K hX 8 rfl
 have f8:=zd hX 8 (by decide)
 have z9:=K hX 9 rfl
 have f9:=zd hX 9 (by decide)
 have kU:=K hX 10 rfl
 have f10:=zd hX 10 (by decide)
 have ow:=K hX 11 rfl
 have f11:=zd hX 11 (by decide)
 have ox:=K hX 12 rfl
 have f12:=zd hX 12 (by decide)
 have oy:=K hX 13 rfl
 have f13:=zd hX 13 (by decide)
 unfold tupE evV
 simp only
 clear uk hX HR HX HZ
 go_wp2_with fail
 rw [set14]
 have xT:=H (zw (us:=(yw xn ck A ct F cq ci O cg id xj qty xk xi)) (U qG) rfl)
 have HBF:=H (zi w.heap.size yb (yw xn ck A ct F cq ci O cg id xj qty xk xi) 0 W1 (U ue))
 clear z0 f0 z1 f1 z2 f2 z3 f3 z4 f4 z5 f5 z6 f6 z7 f7 z8 f8 z9 f9 kU f10 ow f11 ox f12 oy f13 qG ue
 generalize (W1.setCells w.heap.size 0 (yw xn ck A ct F cq ci O cg id xj qty xk xi)) = WF at xT HBF ⊢
 obtain ⟨d0,d1,d2,d3,d4,d5,d6,d7,d8,d9,ku,kY,kZ,oa⟩:=yz (U xT)
 refine bodyPost_ret (v:=tupE ⟨xn,⟨ck,A,ct,F,cq,ci,O,cg⟩,id,xj,qty,xk,xi⟩ (r2,r3)) ?_ rfl ⟨rfl,U HBF⟩
 simp [results,Tryz.f70,go_sem,d0,d1,d2,d3,d4,d5,d6,d7,d8,d9,ku,kY,kZ,oa,tupE,evV]
theorem ite_okb (p:Prop) [Decidable p] (b:Bool) (W:World):(if p then Result.ok (Value.bool b) W else Result.ok (Value.bool false) W) = Result.ok (Value.bool (decide p && b)) W:=by
 split <;> simp_all
theorem eqVlE (a b:Ev) (W:World):(binOp .eql 119 (vlV a) (vlV b)).run Tryz.prog W = .ok (.bool (sameE a b)) W:=by
 obtain ⟨ak,⟨a1,a2,a3,a4,a5,a6,a7,a8⟩,a9,a10,a11,a12,a13⟩:=a
 obtain ⟨bk,⟨b1,b2,b3,b4,b5,b6,b7,b8⟩,b9,b10,b11,qv,b13⟩:=b
 unfold vlV
 simp only
 go_simp
 unfold sameE
 simp only
 have h7:((fbit a7:Int) = fbit b7) ↔ fbit a7 = fbit b7:=by omega
 simp only [h7,ite_okb,Bool.and_true]
 rfl
theorem eqGdE (a b:Ev) (W:World):(eqGuard .eql 119 (.tmp 22) (.tmp 24) (vlV a) (vlV b)).run Tryz.prog W = .ok () W:=by
 unfold vlV
 go_simp
theorem implOK_any (e:Ev) (he:e.fit) (w:World) (hE:ErrT w):Calls Tryz.prog 39 #[evV e] w fun r w'=>r = .returned (.bool (okE e))∧yp w w':=by
 have hsf:=sfl
 obtain ⟨xz,uA⟩:=fE w e.vs 52
 have qL:Hid ((w.alloc (Obj.cells e.vs.toArray 52)).heap.size = w.heap.size + 1):=by show _ = _; simp
 have HE1:=H (cy hE xz yb)
 have ue:=H xz
 have HAD:=H (fun (hk:1 ≤ e.kind∧e.kind ≤ 9) W=>addEvent_any e he hk W.heap.size (.slice none 0 0) [] W yb (World.ownsRow_nil _ _ _ _) (by simp))
 have jj:=H (fun (hk:1 ≤ e.kind∧e.kind ≤ 9)=>evA_wr e he ((shF_ne e.kind).2 hk) [])
 have HLN:=H (evL_len e he)
 have HBT:=H (evL_bts e)
 have HQ:=H (fun (hk:1 ≤ e.kind∧e.kind ≤ 9)=>okE_eq e hk)
 have HNO:Hid (¬ (1 ≤ e.kind∧e.kind ≤ 9)→okE e = false):=fun h=>by
  unfold okE
  rw [if_pos (by unfold fldK; rw [if_neg (by omega),if_neg (by omega),if_neg (by omega),if_neg (by omega),if_neg (by omega)])]
 have HVA:=H (fun W=>eC e W)
 have HVB:=H (fun W=>eC (bkE e) W)
 have HSM:=H (fun W=>eqVlE (bkE e) e W)
 have ql:=H (fun W=>eqGdE (bkE e) e W)
 have jo:=shF_ne e.kind
 clear he xz
 generalize okE e = ok at *
 generalize bkE e = b at *
 generalize evL e = fy at *
 have HVE:Hid (evV e = .agg e.vs.toArray):=rfl
 generalize sameE b e = sm at *
 generalize vlV e = vl at *
 generalize vlV b = vb at *
 obtain ⟨xn,⟨ck,A,ct,F,cq,ci,O,cg⟩,id,xj,qty,xk,xi⟩:=e
 unfold evV at HVA HAD ⊢
 unfold Ev.vs at uA qL HE1 ue
 simp only at HVA HAD uA qL HE1 ue jo jj HBT HQ HNO ⊢
 go_enter Tryz.func39,Tryz.ntmps39
 refine fD fun zb xU=>?_
 go_wp2_with fail
 refine U xU _ _ ?_
 clear xU
 generalize (w.alloc (L (yw xn ck A ct F cq ci O cg id xj qty xk xi).toArray 52)) = W1 at uA qL HE1 ue ⊢
 have x0:=K (U uA) 0 rfl
 go_wp2_with fail
 refine (shape_any xn W1).mono ?_
 rintro r W2 ⟨fv,fs,rfl,hof,hff,xL⟩
 have vV:=(ffs_get hff).1
 obtain ⟨fa,ky,rfl,hfl,uG⟩:=hof
 clear hff uG
 have xw:=H xL
 clear xL
 go_wp2_with fail
 refine (isKind_any (shC xn) fa fs.length ky W2).mono ?_
 rintro r W3 ⟨rfl,xQ⟩
 have xN:=H (fC (U xw) xQ)
 clear xQ
 by_cases hk:1 ≤ xn∧xn ≤ 9
 ·have qJ:decide (0 < fs.length) = true:=by
   rw [← vV,decide_eq_true_iff]
   exact List.length_pos_iff.2 (jo.2 hk)
  rw [qJ]
  have ko:=zf (U uA) (U xN) (by rw [U qL]; omega)
  have z0:=K ko 0 rfl
  have z1:=K ko 1 rfl
  have z2:=K ko 2 rfl
  have z3:=K ko 3 rfl
  have z4:=K ko 4 rfl
  have z5:=K ko 5 rfl
  have z6:=K ko 6 rfl
  have z7:=K ko 7 rfl
  have z8:=K ko 8 rfl
  have z9:=K ko 9 rfl
  have kU:=K ko 10 rfl
  have ow:=K ko 11 rfl
  have ox:=K ko 12 rfl
  have oy:=K ko 13 rfl
  have uP:=H ko
  have HW3:=H ((U ue).trans ((U xN).mono (U ue).size))
  have HE3:=H (cy (U HE1) (U xN) yb)
  have HAD3:=H (U HAD hk W3)
  have hz3:w.heap.size < W3.heap.size:=by have:=(U xN).size; rw [U qL] at this; omega
  clear ko qJ xw xN uA HE1 ue vV hfl x0
  go_wp2_with fail
  refine (U HAD3).mono ?_
  rintro r W4 ⟨v4,rfl,hr4,kJ,hq4⟩
  rw [List.nil_append] at hr4
  have jh:=U HLN
  have oZ:=bRow_own hr4 jh.1 (by omega)
  have xy:yp W3 W4:=⟨kJ.os,kJ.tape,kJ.output,kJ.size,fun i hi=>kJ.block i hi (by simp [Value.ownBlock])⟩
  have HDC:=H (implDecode_any v4 fy 0 W4 (own_rd oZ.own) (capOk_own oZ) (U HBT hk) (cy (U HE3) xy yb))
  have her:evR fy 0 = (b,((fy.length:Nat):Int),0):=evR_some (k:=0) (by omega) (by omega) (by have:=U jj hk; rwa [List.append_nil] at this)
  rw [her] at HDC
  have xG:=H (zf (U uP) xy hz3)
  have kn:=H (fC (U HW3) xy)
  have hz4:w.heap.size < W4.heap.size:=yK hz3 xy.size
  clear hr4 kJ hq4 oZ xy her HE3 HAD3 uP HW3 hz3 z0 z1 z2 z3 z4 z5 z6 z7 z8 z9 kU ow ox oy
  go_wp2_with fail
  refine (U HDC).mono ?_
  rintro r W5 ⟨rfl,uh⟩
  unfold tupE
  have hX5:=zf (U xG) uh hz4
  have HW5:=H (fC (U kn) uh)
  have hz5:w.heap.size < W5.heap.size:=yK hz4 uh.size
  obtain ⟨kl,⟨ck',cs',ct',cl',cq',ci',cp',cg'⟩,id',qS,ao,qT,qk⟩:=b
  unfold evV at HVB ⊢
  simp only at HVB ⊢
  have om:=fw W5 (L (yw kl ck' cs' ct' cl' cq' ci' cp' cg' id' qS ao qT qk).toArray 52)
  have po:Hid (Bx (W5.alloc (L (yw kl ck' cs' ct' cl' cq' ci' cp' cg' id' qS ao qT qk).toArray 52)) W5.heap.size (yw kl ck' cs' ct' cl' cq' ci' cp' cg' id' qS ao qT qk)):=zq W5 (yw kl ck' cs' ct' cl' cq' ci' cp' cg' id' qS ao qT qk) 52
  have vw:=H (zf hX5 om hz5)
  have HW6:=H (fC (U HW5) om)
  have HZ6:Hid ((W5.alloc (L (yw kl ck' cs' ct' cl' cq' ci' cp' cg' id' qS ao qT qk).toArray 52)).heap.size = W5.heap.size + 1):=by show _ = _; simp
  clear uh om hX5 xG kn HW5 hz4 HDC
  go_wp2_with fail
  generalize (W5.alloc (L (yw kl ck' cs' ct' cl' cq' ci' cp' cg' id' qS ao qT qk).toArray 52)) = W6 at po vw HW6 HZ6 ⊢
  have HCB:Hid (Calls Tryz.prog 72 #[.agg (yw kl ck' cs' ct' cl' cq' ci' cp' cg' id' qS ao qT qk).toArray] W6.drew fun r W7=>r = .returned vb∧Bx W7 w.heap.size (yw xn ck A ct F cq ci O cg id xj qty xk xi)∧yp w W7):=by
   refine (U HVB W6.drew).mono ?_
   rintro r W7 ⟨rfl,qi⟩
   exact ⟨rfl,zf (zJ (U vw)) qi (by show w.heap.size < W6.heap.size; rw [U HZ6]; omega),(U HW6).drew.trans (qi.mono (U HW6).drew.size)⟩
  obtain ⟨x0,x1,x2,x3,x4,x5,x6,x7,x8,x9,jP,jQ,jR,jS⟩:=yz (U vw)
  obtain ⟨y0,y1,y2,y3,y4,y5,y6,y7,y8,y9,y10,y11,y12,y13⟩:=yz (U po)
  have hsm:=fun W=>U HSM W
  have hgd:=fun W=>U ql W
  have HQQ:=H (U HQ hk)
  clear po vw HVB
  go_region_with (go_at_call 72; first | (with_reducible refine (U HCB).mono ?_; rintro r W7 ⟨rfl,pP,hW7⟩; have HW7:=H hW7; have g0:=K pP 0 rfl; have g1:=K pP 1 rfl; have g2:=K pP 2 rfl; have g3:=K pP 3 rfl; have g4:=K pP 4 rfl; have g5:=K pP 5 rfl; have g6:=K pP 6 rfl; have g7:=K pP 7 rfl; have g8:=K pP 8 rfl; have g9:=K pP 9 rfl; have qn:=K pP 10 rfl; have vE:=K pP 11 rfl; have ua:=K pP 12 rfl; have qI:=K pP 13 rfl; clear pP hW7) | (refine (U HVA _).mono ?_; rintro r W8 ⟨rfl,hb8⟩; have HW8:=H (fC (U HW7) hb8); clear hb8))
  all_goals try go_wp2_with fail
  all_goals
   refine bodyPost_ret (v:=.bool sm) ?_ rfl ⟨by rw [U HQQ],U HW8⟩
   simp [results,Tryz.f39,go_sem]
 ·have qJ:decide (0 < fs.length) = false:=by
   rw [← vV,decide_eq_false_iff_not]
   intro h
   exact hk (jo.1 (List.length_pos_iff.1 h))
  rw [qJ]
  go_wp2_with fail
  go_ret
  exact ⟨by rw [U HNO hk]; rfl,(U ue).trans ((U xN).mono (U ue).size)⟩
theorem allRight_any (v:Value) (l:List Ev) (w:World) (hr:RdR Ev.vs 14 w v l) (hf:∀ e ∈ l,e.fit) (hE:ErrT w):Calls Tryz.prog 57 #[v] w fun r w'=>r = .returned (.bool (l.all okE))∧yp w w':=by
 have hsf:=sfl
 have HE:=H hE
 obtain ⟨a,cap,rfl,hl,hc⟩:=hr
 have HC:=H hc
 have HF:=H hf
 clear hc hf hE
 go_enter Tryz.func57,Tryz.ntmps57
 go_wp2_with fail
 go_loopw [7] (fun iv wr=>∃ k:Nat,k ≤ l.length∧iv = I k∧(l.take k).all okE = true∧yp w wr) (fun iv _=>l.length - (intOf iv).toNat)
 case atStart=>exact ⟨0,Nat.zero_le _,rfl,rfl,Below.refl _ _⟩
 case round =>
  obtain ⟨k,hk,rfl,D,E⟩:=hrel
  have HB:=H E
  have HA:=H D
  clear E D
  by_cases xJ:k < l.length
  ·obtain ⟨e,jo⟩:∃ e,l[k]? = some e:=⟨_,yI xJ⟩
   obtain ⟨b,off,rfl,kz,xV⟩:=U HC (by intro h; rw [h] at xJ; simp at xJ)
   have X:=zc (xV k e jo) (U HB) kz
   have uF:(k:Int) < l.length:=by omega
   have ke:=U HF e (yP jo)
   have qw:=fw wr (Obj.cells e.vs.toArray 52)
   have xw:=H (fC (U HB) qw)
   have HO:=H (implOK_any e ke (wr.alloc (Obj.cells e.vs.toArray 52)) (cy (U HE) (U xw) yb))
   have HT:Hid ((l.take (k + 1)).all okE = ((l.take k).all okE && okE e)):=by
    show (l.take (k + 1)).all okE = _
    rw [List.take_add_one,jo]
    simp
   have HNo:Hid (okE e = false→l.all okE = false):=fun h=>List.all_eq_false.2 ⟨e,yP jo,by rw [h]; decide⟩
   generalize okE e = ok at *
   obtain ⟨xn,⟨ck,A,ct,F,cq,ci,O,cg⟩,id,xj,qty,xk,xi⟩:=e
   unfold evV at HO
   unfold Ev.vs at HO xw
   simp only at HO xw
   have x0:wr.cell? (Q b (off + k * 14)) = _:=X 0 _ rfl
   have x1:=X 1 _ rfl
   have x2:=X 2 _ rfl
   have x3:=X 3 _ rfl
   have x4:=X 4 _ rfl
   have x5:=X 5 _ rfl
   have x6:=X 6 _ rfl
   have x7:=X 7 _ rfl
   have x8:=X 8 _ rfl
   have x9:=X 9 _ rfl
   have jP:=X 10 _ rfl
   have jQ:=X 11 _ rfl
   have jR:=X 12 _ rfl
   have jS:=X 13 _ rfl
   clear X xV jo ke qw
   go_wp2_with fail
   refine (U HO).mono ?_
   rintro r W3 ⟨rfl,xQ⟩
   have xN:=H (fC (U xw) xQ)
   clear xQ x0 x1 x2 x3 x4 x5 x6 x7 x8 x9 jP jQ jR jS
   cases ok with
   | true =>
    go_wp2_with fail
    go_roundw
    case rel=>exact ⟨k + 1,by omega,by go_num,by rw [U HT,U HA]; rfl,U xN⟩
    case measure=>simp [intOf]; omega
   | false =>
    have HNN:=H (U HNo rfl)
    go_wp2_with fail
    go_ret
    exact ⟨by rw [U HNN]; rfl,U xN⟩
  ·have oJ:k = l.length:=by omega
   have HY:Hid (l.all okE = true):=by
    have:=U HA
    rwa [oJ,List.take_length] at this
   go_wp2_with fail
   go_ret
   exact ⟨by rw [U HY]; rfl,U HB⟩
def brV (k:Int):Value:=.iface 121 (I k)
def brk (k:Int):List PanicEntry:=[{ v:=.iface 121 (I k),recovered:=false }]
theorem bC (k:Int) (w:World):Calls Tryz.prog 133 #[.bool true,I k] w fun e w'=>e = .returned (.tuple #[])∧w' = w:=by
 go_enter Tryz.func133,Tryz.ntmps133
 go_wp2_with fail
 go_end0
 exact ⟨rfl,rfl⟩
theorem bw (k:Int) (w:World):Calls Tryz.prog 133 #[.bool false,I k] w fun e w'=>e = .panicked (brk k)∧w' = w:=by
 go_enter Tryz.func133,Tryz.ntmps133
 go_wp2
 exact ⟨rfl,rfl,rfl⟩
theorem isJust_any (e:Ev) (d:Du) (w:World):Calls Tryz.prog 139 #[evV e,duV d] w fun r w'=>r = .returned (.bool (aS e d))∧yp w w':=by
 have hsf:=sfl
 obtain ⟨xn,⟨ck,A,ct,F,cq,ci,O,cg⟩,id,xj,qty,xk,xi⟩:=e
 obtain ⟨dk,di,dot,dq,dp⟩:=d
 unfold evV duV
 simp only
 by_cases N:xn = dk
 ·have b1:(xn == dk) = true:=by simpa using N
  by_cases Y:id = di
  ·have b2:(id == di) = true:=by simpa using Y
   have V:aS ⟨xn,⟨ck,A,ct,F,cq,ci,O,cg⟩,id,xj,qty,xk,xi⟩ ⟨dk,di,dot,dq,dp⟩ = (qty == dq):=by simp [aS,b1,b2]
   rw [V]
   clear V N Y
   go_enter Tryz.func139,Tryz.ntmps139
   go_wp2_with fail
   go_ret
   exact ⟨rfl,by go_grown⟩
  ·have b2:(id == di) = false:=by simpa using Y
   have V:aS ⟨xn,⟨ck,A,ct,F,cq,ci,O,cg⟩,id,xj,qty,xk,xi⟩ ⟨dk,di,dot,dq,dp⟩ = false:=by simp [aS,b1,b2]
   rw [V]
   clear V N Y
   go_enter Tryz.func139,Tryz.ntmps139
   go_wp2_with fail
   go_ret
   exact ⟨rfl,by go_grown⟩
 ·have b1:(xn == dk) = false:=by simpa using N
  have V:aS ⟨xn,⟨ck,A,ct,F,cq,ci,O,cg⟩,id,xj,qty,xk,xi⟩ ⟨dk,di,dot,dq,dp⟩ = false:=by simp [aS,b1]
  rw [V]
  clear V N
  go_enter Tryz.func139,Tryz.ntmps139
  go_wp2_with fail
  go_ret
  exact ⟨rfl,by go_grown⟩
theorem toldCmd_any (e:Ev) (w:World) (hk:1 ≤ e.kind∧e.kind ≤ 9):Calls Tryz.prog 174 #[evV e] w fun r w'=>r = .returned (.tuple #[cmV (aQ e),.bool (zO e.kind)])∧yp w w':=by
 have hsf:=sfl
 obtain ⟨xn,⟨ck,A,ct,F,cq,ci,O,cg⟩,id,xj,qty,xk,xi⟩:=e
 simp only at hk
 unfold evV aQ cmV zCm zO
 simp only
 rcases (show xn = 1 ∨ xn = 2 ∨ xn = 3 ∨ xn = 4 ∨ xn = 5 ∨ xn = 6 ∨ xn = 7 ∨ xn = 8 ∨ xn = 9 by omega) with rfl | rfl | rfl | rfl | rfl | rfl | rfl | rfl | rfl
 all_goals
  clear hk
  simp
  go_enter Tryz.func174,Tryz.ntmps174
  go_wp2_with fail
  go_returns
  exact ⟨rfl,by go_grown⟩
def mI (k:Int) (f:FuncId) (b:Nat):MapEntry:={ key:=I k,val:=.func (.func f) #[] #[],born:=b }
def chkM:Array MapEntry:=#[mI 1 87 0,mI 2 88 1,mI 3 89 2,mI 4 90 3,mI 5 91 4,mI 6 92 5,mI 7 93 6,mI 8 94 7,mI 9 95 8]
def gsV (r:Nat) (vq:Value) (g:Gr):List Value:=[.map (some r),I g.nx,vq,I g.bg,I g.cm.s,I g.cm.t,I g.cm.l,I g.cm.q,yk g.cm.p,yl g.cm.g,I g.tk.id,I g.tk.side,I g.tk.ticks,I g.tk.left,I g.tk.life,yl g.tk.tag]
structure GS (G B r:Nat) (W:World) (vq:Value) (g:Gr):Prop where
 box:Bx W G (gsV r vq g)
 row:ORow W B vq g.l
 typ:∃ cur,W.heap[G]? = some (.cells cur 87 (0,0))
 mp:W.heap[r]? = some (.map chkM 9)
 hG:B ≤ G
 hr:B ≤ r
section
variable {G B r:Nat} {w W W':World} {vq uE:Value} {g g':Gr}
theorem GS.lt (h:GS G B r W vq g):G < W.heap.size:=by
 obtain ⟨xF,hc⟩:=h.typ
 exact (yZ.1 hc).1
theorem GS.rlt (h:GS G B r W vq g):r < W.heap.size:=(yZ.1 h.mp).1
theorem GS.ne (h:GS G B r W vq g):r ≠ G:=by
 rintro rfl
 obtain ⟨xF,hc⟩:=h.typ
 rw [h.mp] at hc
 cases hc
theorem GS.nq (h:GS G B r W vq g):some G ≠ vq.ownBlock:=bU h.row h.typ (by decide)
theorem GS.nr (h:GS G B r W vq g):some r ≠ vq.ownBlock:=by
 rcases h.row.2 with ⟨N,_⟩ | ⟨b,cap,xF,N,_,h3,_⟩
 ·rw [N]; simp [Value.ownBlock]
 ·rw [N]
  intro e
  simp only [Value.ownBlock,Option.some.injEq] at e
  rw [← e,h.mp] at h3
  cases h3
theorem zy (h:GS G B r W vq g) (E:yp W W'):GS G B r W' vq g :=
 ⟨zf h.box E h.lt,zM h.row E,by obtain ⟨xF,hc⟩:=h.typ; exact ⟨xF,(E.block G h.lt).trans hc⟩,(E.block r h.rlt).trans h.mp,h.hG,h.hr⟩
theorem gs_set (h:GS G B r W vq g) (j:Nat) (u:Value) (V:j < 16) (he:gsV r vq g' = (gsV r vq g).set j u) (hl:g'.l = g.l):GS G B r (W.setCell (Q G j) u) vq g' :=
 ⟨by rw [he]; exact aX h.box V,by rw [hl]; exact bd h.row h.nq j u,by obtain ⟨xF,hc⟩:=h.typ; exact bN W G j u hc,(yT _ _ _ _ h.ne).trans h.mp,h.hG,h.hr⟩
theorem gs_took {l':List Od} (h:GS G B r W vq g) (hc:W'.cell? (Q G 2) = some uE) (Z:ORow W' B uE l') (ht:TookAt G 1 vq.ownBlock W W'):GS G B r W' uE { g with l:=l' }:=by
 refine ⟨⟨fun j u V=>?_,fun j V=>⟨?_,?_⟩⟩,Z,by obtain ⟨xF,hc⟩:=h.typ; exact ht.kind _ _ _ hc,(ht.block r h.rlt h.ne h.nr).trans h.mp,h.hG,h.hr⟩
 ·rw [Nat.zero_add]
  by_cases Y:j = 2
  ·subst Y; cases V; exact hc
  ·rw [ht.cell j Y]
   refine K h.box j ?_
   unfold gsV at V ⊢
   match j,V,Y with
   | 0,V,_=>exact V
   | 1,V,_=>exact V
   | 2,V,Y=>exact absurd rfl Y
   | j + 3,V,_=>exact V
 ·rw [Nat.zero_add]
  by_cases Y:j = 2
  ·subst Y; rw [hc]; rfl
  ·rw [ht.cell j Y]
   have:=(h.box.t j (by simpa [gsV] using V)).1
   rwa [Nat.zero_add] at this
 ·rw [ht.frozen]
  exact (h.box.t j (by simpa [gsV] using V)).2
theorem below_setG {C:Nat} (E:Below C w W) (hC:C ≤ B) (h:GS G B r W vq g) (j:Nat) (u:Value):Below C w (W.setCell (Q G j) u) :=
 ⟨E.os,E.tape,E.output,by have:=E.size; simpa [World.setCell] using this,fun k hk=>by
  rw [yT _ _ _ _ (by show k ≠ G; have:=h.hG; omega)]
  exact E.block k hk⟩
end
theorem fdyF_find:∀ (l:List Od) (k:Nat),(fdyF l k = -1∧l.find? isDy = none) ∨ ∃ (i:Nat) (o:Od),fdyF l k = ((k + i:Nat):Int)∧l[i]? = some o∧l.find? isDy = some o
 | [],_=>.inl ⟨rfl,rfl⟩
 | a :: r,k=>by
  by_cases h:a.life = 1
  ·exact .inr ⟨0,a,by rw [fdyF,if_pos h,Nat.add_zero],rfl,by simp [isDy,h]⟩
  ·rcases fdyF_find r (k + 1) with ⟨N,Y⟩ | ⟨i,o,N,Y,h3⟩
   ·exact .inl ⟨by rw [fdyF,if_neg h,N],by simp [isDy,h]; simpa [isDy] using Y⟩
   ·exact .inr ⟨i + 1,o,by rw [fdyF,if_neg h,N]; congr 1; omega,by simpa using Y,by rw [List.find?_cons_of_neg (by simpa [isDy] using h)]; exact h3⟩
theorem fdy_find (l:List Od):(fdy l = -1∧l.find? isDy = none) ∨ ∃ (i:Nat) (o:Od),fdy l = i∧l[i]? = some o∧l.find? isDy = some o:=by
 rcases fdyF_find l 0 with h | ⟨i,o,N,Y,h3⟩
 ·exact .inl h
 ·exact .inr ⟨i,o,by rw [fdy,N,Nat.zero_add],Y,h3⟩
theorem dayDue_any {G B r:Nat} {vq:Value} {g:Gr} (w:World) (h:GS G B r w vq g) (hn:g.l.length ≤ 1000):Calls Tryz.prog 60 #[J G 0] w fun e w'=>e = .returned (duV (dayD g.l))∧yp w w':=by
 have hG:=h.lt
 obtain ⟨xz,HX⟩:=fE w [I 0,I 0,I 0,I 0,I 0] 29
 have HS:Hid ((w.alloc (L #[I 0,I 0,I 0,I 0,I 0] 29)).heap.size = w.heap.size + 1):=by show _ = _; simp
 have HG:=H (zy h xz)
 have HB:=H xz
 clear h xz
 obtain ⟨nx,l,bg,cm,tk⟩:=g
 simp only at hn ⊢
 go_enter Tryz.func60,Tryz.ntmps60
 refine fD fun zb HK=>?_
 go_wp2_with fail
 refine U HK _ _ ?_
 clear HK
 generalize (w.alloc (L #[I 0,I 0,I 0,I 0,I 0] 29)) = W1 at HX HS HG HB ⊢
 have c2:W1.cell? (Q G 2) = some vq:=K (U HG).box 2 rfl
 have uN:=H (zK (U HG).row (yO hn (by decide)))
 go_wp2_with fail
 refine (indexDay_any vq l W1 (U uN)).mono ?_
 rintro e w2 ⟨rfl,xL⟩
 have ug:=H (zy (U HG) xL)
 have hz:=U HS
 have xI:=H (zf (U HX) xL (by omega))
 have xw:=H (fC (U HB) xL)
 have z0:=K (U xI) 0 rfl
 have z1:=K (U xI) 1 rfl
 have z2:=K (U xI) 2 rfl
 have z3:=K (U xI) 3 rfl
 have z4:=K (U xI) 4 rfl
 have f0:=zd (U xI) 0 (by decide)
 have f1:=zd (U xI) 1 (by decide)
 have f2:=zd (U xI) 2 (by decide)
 have f3:=zd (U xI) 3 (by decide)
 have f4:=zd (U xI) 4 (by decide)
 have HRD2:=H (zK (U ug).row (yO hn (by decide)))
 clear c2 xL hz HX HS HG HB uN
 rcases fdy_find l with ⟨N,Y⟩ | ⟨i,o,N,Y,h3⟩
 ·have HD:Hid (dayD l = zDu):=by show _ = _; unfold dayD; rw [Y]
  rw [N]
  clear N Y
  go_wp2_with fail
  try simp (config:={ zetaDelta:=true }) only [Exit.noGoto_ret]
  change bodyPost _ _ _ _ _ (World.setCells w2 w.heap.size 0 [I 0,I 0,I 0,I 0,I 0])
  have xp:Hid ((World.setCells w2 w.heap.size 0 [I 0,I 0,I 0,I 0,I 0]).rangeAt w.heap.size 0 [I 0,I 0,I 0,I 0,I 0]∧yp w (World.setCells w2 w.heap.size 0 [I 0,I 0,I 0,I 0,I 0])):=⟨(zw (U xI) (by simp only [List.length_cons,List.length_nil])).r,zi w.heap.size yb [I 0,I 0,I 0,I 0,I 0] 0 w2 (U xw)⟩
  generalize World.setCells w2 w.heap.size 0 [I 0,I 0,I 0,I 0,I 0] = WE at xp ⊢
  obtain ⟨d0,d1,d2,d3,d4⟩:=yC (U xp).1
  try simp only [Exit.inBlock,Exit.then]
  refine bodyPost_ret (by simp [results,Tryz.results60,go_sem,d0,d1,d2,d3,d4]; try rfl) rfl ?_
  exact ⟨by rw [U HD]; rfl,(U xp).2⟩
 ·have HD:Hid (dayD l = ⟨9,o.id,0,o.left,0⟩):=by show _ = _; unfold dayD; rw [h3]
  obtain ⟨a,cap,rfl,hl,hc⟩:=U HRD2
  obtain ⟨b,off,rfl,kz,X⟩:=hc (by rintro rfl; simp at Y)
  obtain ⟨y0,-,-,y3,-,-⟩:=zB (X i o Y)
  have hil:(i:Int) < l.length:=by have:=(yH.1 Y).1; omega
  have vA:¬ ((i:Int) < 0):=by omega
  have hi0':(0:Int) ≤ i:=by omega
  have c2:w2.cell? (Q G 2) = some (.slice (some (Q b off)) l.length cap):=K (U ug).box 2 rfl
  rw [N]
  clear N Y h3 hc X HRD2
  go_wp2_with fail
  refine zE 19 (by kernel_rfl) (by kernel_rfl) ?_
  simp only [yU,List.take_zero,yV,List.drop_zero]
  have c2d:w2.drew.cell? (Q G 2) = some (.slice (some (Q b off)) l.length cap):=c2
  have y0d:w2.drew.cell? (Q b (off + i * 6)) = some (I o.id):=y0
  have y3d:w2.drew.cell? (Q b (off + i * 6 + 3)) = some (I o.left):=y3
  have HB2d:Hid (yp w w2.drew):=⟨(U xw).os,(U xw).tape,(U xw).output,(U xw).size,(U xw).block⟩
  repeat still_step
  refine wpStill_nil ?_
  have jC:Hid (Bx w2.drew w.heap.size [I 0,I 0,I 0,I 0,I 0]):=zJ (U xI)
  clear c2d y0d y3d c2 y0 y3 z0 z1 z2 z3 z4 f0 f1 f2 f3 f4 xI ug xw
  generalize w2.drew = W3 at jC HB2d ⊢
  have z0:=K (U jC) 0 rfl
  have z1:=K (U jC) 1 rfl
  have z2:=K (U jC) 2 rfl
  have z3:=K (U jC) 3 rfl
  have z4:=K (U jC) 4 rfl
  have f0:=zd (U jC) 0 (by decide)
  have f1:=zd (U jC) 1 (by decide)
  have f2:=zd (U jC) 2 (by decide)
  have f3:=zd (U jC) 3 (by decide)
  have f4:=zd (U jC) 4 (by decide)
  go_wp2_with fail
  try simp (config:={ zetaDelta:=true }) only [Exit.noGoto_ret]
  change bodyPost _ _ _ _ _ (World.setCells W3 w.heap.size 0 [I 9,I o.id,I 0,I o.left,I 0])
  have xp:Hid ((World.setCells W3 w.heap.size 0 [I 9,I o.id,I 0,I o.left,I 0]).rangeAt w.heap.size 0 [I 9,I o.id,I 0,I o.left,I 0]∧yp w (World.setCells W3 w.heap.size 0 [I 9,I o.id,I 0,I o.left,I 0])):=⟨(zw (U jC) (by simp only [List.length_cons,List.length_nil])).r,zi w.heap.size yb [I 9,I o.id,I 0,I o.left,I 0] 0 W3 (U HB2d)⟩
  generalize World.setCells W3 w.heap.size 0 [I 9,I o.id,I 0,I o.left,I 0] = WE at xp ⊢
  obtain ⟨d0,d1,d2,d3,d4⟩:=yC (U xp).1
  try simp only [Exit.inBlock,Exit.then]
  refine bodyPost_ret (by simp [results,Tryz.results60,go_sem,d0,d1,d2,d3,d4]; try rfl) rfl ?_
  exact ⟨by rw [U HD]; rfl,(U xp).2⟩
end Go.Proofs.YtnphbkgfjanmgaaGreatDoor
