/-
  A trade in a group, by the program: proved by walking the method.
-/
import Derived.Test.YthhkapcbocgcoaaGreatDoorGj36
set_option linter.unusedVariables false
set_option maxHeartbeats 6400000
set_option maxRecDepth 100000
namespace Go.Proofs.YthhkapcbocgcoaaGreatDoor
open Go.RowKit
theorem trade_chk {G B r:Nat} {vq:Value} {g:Gr} (e:Ev) (w:World) (h:GS G B r w vq g) (hi:GI g) (he:okE e = true) (E:e.kind = 3) (hg:e.cmd.g.size ≤ maxLen):Calls Tryz.prog 96 #[I G 0,evV e] w fun x w'=>Chk G B r vq g e w x w':=by
 have hsf:=sfl
 have hG:=h.lt
 have jU:=h.base
 have ux:Hid (zD g e = if dueR g e ≠ 0 then dueR g e else trR (dueG g) e):=by show _ = _; simp [zD,E]
 have uY:Hid (takG g e = ⟨g.nx,hitI g.l e.other e.qty,g.bg,g.cm,{ g.tk with left:=g.tk.left - e.qty }⟩):=by show _ = _; rw [takG,step3 E]
 have vn:Hid (∀ k w',zD g e = k→k ≠ 0→Kp G vq w w'→Chk G B r vq g e w (.panicked (brk k)) w'):=fun k w' Q D X=>chk_no Q D X
 have uX:Hid (∀ w' uG,zD g e = 0→Kp G vq w w'→GS G B r w' uG (takG g e)→Chk G B r vq g e w (.returned (.tuple #[])) w'):=fun w' uG Q D X=>chk_ok Q D X
 have jF:Hid (∀ W,GS G B r W vq g→Calls Tryz.prog 153 #[I G 0,evV e] W fun x w'=>x = outD (dueR g e) (dueG g)∧yn W w'):=fun W hW=>gz e W hW hi
 have pe:Hid (zD g e = 0→g.bg = 1∧g.tk.left ≠ 0∧∃ o,bT g.l (othS g.cm.s) = some o∧cj g.cm o = true∧e.id = g.tk.id∧e.other = o.id∧e.qty = min g.tk.left o.left∧e.price = o.ticks):=rule3 E
 have HI:=M hi
 generalize Chk G B r vq g e w = C at vn uX ⊢
 generalize zD g e = ru at vn uX ux pe
 generalize takG g e = g' at uY uX
 generalize dueR g e = dr at jF ux
 generalize dueG g = d at jF ux
 obtain ⟨xn,⟨ck,cs,ct,cl,cq,ci,cp,cg⟩,id,xl,qty,xm,xk⟩:=e
 simp only at E hg
 try simp only at ux uY
 unfold trR at ux
 unfold evV at jF
 simp only at ux jF pe
 unfold evV
 simp only
 obtain ⟨xR,HX⟩:=ie w (yv xn ck cs ct cl cq ci cp cg id xl qty xm xk) 37
 have HS:Hid ((w.alloc (O (yv xn ck cs ct cl cq ci cp cg id xl qty xm xk).toArray 37)).heap.size = w.heap.size + 1):=by show _ = _; simp
 have HG:=M (zx h xR)
 have HB:Hid (Kp G vq w (w.alloc (O (yv xn ck cs ct cl cq ci cp cg id xl qty xm xk).toArray 37))):=kp_of xR
 clear h xR hi he E hg
 go_enter Tryz.func96,Tryz.ntmps96
 refine ic fun xh HK=>?_
 go_wp2_with fail
 refine U HK _ _ ?_
 clear HK
 generalize (w.alloc (O (yv xn ck cs ct cl cq ci cp cg id xl qty xm xk).toArray 37)) = W1 at HS HX HG HB ⊢
 obtain ⟨e0,e1,e2,e3,e4,e5,e6,e7,e8,e9,vy,vz,qj,qk⟩:=yz (U HX)
 go_wp2_with fail
 refine (U jF W1 (U HG)).mono ?_
 rintro x w2 ⟨hx,xP⟩
 by_cases hs:dr = 0
 case neg =>
  rw [outD_no hs] at hx
  subst hx
  go_wp2_with fail
  exact ⟨rfl,U vn _ _ (by rw [U ux,if_pos hs]) hs (cB (U HB) xP)⟩
 rw [outD_ok hs] at hx
 subst hx
 have HDZ:=M hs
 have uc:=M (U ux)
 rw [if_neg (not_not_intro hs)] at uc
 clear hs ux
 obtain ⟨dk,di,dt,dq,dp⟩:=d
 unfold duV
 simp only at uc ⊢
 have xQ:=gZ w2 (O #[H dk,H di,H dt,H dq,H dp] 39)
 have oB:=xP.trans (xQ.mono xP.size)
 have xW:=M (zl (U HX) oB (by have:=U HS; omega))
 have uo:=M (zx (U HG) oB)
 have xt:=M (cB (U HB) oB)
 have HV2:=M (zy w2 [H dk,H di,H dt,H dq,H dp] 39)
 have HZ2:Hid (w.heap.size < w2.heap.size∧w2.heap.size < (w2.alloc (O #[H dk,H di,H dt,H dq,H dp] 39)).heap.size):=⟨by have:=U HS; have:=xP.size; omega,by simp⟩
 clear xP xQ oB e0 e1 e2 e3 e4 e5 e6 e7 e8 e9 vy vz qj qk HX HG HB HS
 have oX:=M (U xW)
 by_cases hk3:dk = 3
 case neg =>
  have b0:(dk == 3) = false:=by simpa using hk3
  have HQ:=M (U uc)
  rw [if_pos (fun h=>hk3 h.1)] at HQ
  clear hk3
  go_wp2_with fail
  refine (cG 9 _).mono ?_
  rintro e w6 ⟨rfl,rfl⟩
  go_wp2_with fail
  exact ⟨rfl,U vn 9 _ (U HQ) (by decide) (U xt)⟩
 have b0:(dk == 3) = true:=by simpa using hk3
 have e9:=zb (U oX) 9 rfl
 by_cases uN:id = di
 case neg =>
  have b1:(id == di) = false:=by simpa using uN
  have HQ:=M (U uc)
  rw [if_pos (fun h=>uN h.2)] at HQ
  clear hk3 uN
  go_wp2_with fail
  refine (cG 9 _).mono ?_
  rintro e w6 ⟨rfl,rfl⟩
  go_wp2_with fail
  exact ⟨rfl,U vn 9 _ (U HQ) (by decide) (U xt)⟩
 have b1:(id == di) = true:=by simpa using uN
 rw [if_neg (not_not_intro ⟨hk3,uN⟩)] at uc
 clear hk3 uN
 go_wp2_with fail
 refine (cN 9 _).mono ?_
 rintro e h3 ⟨rfl,hX⟩
 rw [← hX] at xW uo xt HV2 HZ2
 clear hX b0 b1 e9 oX
 have v0:=zb (U HV2) 0 rfl
 have v1:=zb (U HV2) 1 rfl
 have v2:=zb (U HV2) 2 rfl
 have v3:=zb (U HV2) 3 rfl
 have v4:=zb (U HV2) 4 rfl
 have vy:=zb (U xW) 10 rfl
 have vz:=zb (U xW) 11 rfl
 have qj:=zb (U xW) 12 rfl
 by_cases vi:xl = dt
 case neg =>
  have b10:(xl == dt) = false:=by simpa using vi
  have HQ:=M (U uc)
  rw [if_pos vi] at HQ
  clear vi
  go_wp2_with fail
  refine (cG 10 _).mono ?_
  rintro e w6 ⟨rfl,rfl⟩
  go_wp2_with fail
  exact ⟨rfl,U vn 10 _ (U HQ) (by decide) (U xt)⟩
 have b10:(xl == dt) = true:=by simpa using vi
 rw [if_neg (not_not_intro vi)] at uc
 clear vi
 go_wp2_with fail
 refine (cN 10 _).mono ?_
 rintro e X10 ⟨rfl,hX⟩
 rw [hX]
 clear hX b10
 by_cases vK:xm = dp
 case neg =>
  have b11:(xm == dp) = false:=by simpa using vK
  have HQ:=M (U uc)
  rw [if_pos vK] at HQ
  clear vK
  go_wp2_with fail
  refine (cG 11 _).mono ?_
  rintro e w6 ⟨rfl,rfl⟩
  go_wp2_with fail
  exact ⟨rfl,U vn 11 _ (U HQ) (by decide) (U xt)⟩
 have b11:(xm == dp) = true:=by simpa using vK
 rw [if_neg (not_not_intro vK)] at uc
 clear vK
 go_wp2_with fail
 refine (cN 11 _).mono ?_
 rintro e X11 ⟨rfl,hX⟩
 rw [hX]
 clear hX b11
 by_cases vX:qty = dq
 case neg =>
  have qi:(qty == dq) = false:=by simpa using vX
  have HQ:=M (U uc)
  rw [if_pos vX] at HQ
  clear vX
  go_wp2_with fail
  refine (cG 12 _).mono ?_
  rintro e w6 ⟨rfl,rfl⟩
  go_wp2_with fail
  exact ⟨rfl,U vn 12 _ (U HQ) (by decide) (U xt)⟩
 have qi:(qty == dq) = true:=by simpa using vX
 rw [if_neg (not_not_intro vX)] at uc
 clear vX
 go_wp2_with fail
 refine (cN 12 _).mono ?_
 rintro e X12 ⟨rfl,hX⟩
 rw [hX]
 clear hX qi
 obtain ⟨Q,D,o,hf,hm,-,hot,hq,-⟩:=U pe (U uc)
 have hgl:=(U HI).good (.inr D)
 obtain ⟨uC,_⟩:=ek hf
 obtain ⟨i,hi⟩:=List.getElem?_of_mem uC
 have vD:plc g.l xl = i:=by rw [hot]; exact dN hgl.rise hi
 have jX:=hgl.left o uC
 have jk:=(U HI).l0
 have hl1:=(U HI).l1
 have jO:0 ≤ qty:=by omega
 have jl:qty ≤ o.left:=by omega
 have bd:IntKind.i64.wrap (g.tk.left - qty) = g.tk.left - qty:=by rw [IntKind.wrap_i64]; omega
 have bA:=M vD
 have HLI:=M hi
 have HOL:=M jX
 have HQ01:Hid (0 ≤ qty∧qty ≤ o.left):=⟨jO,jl⟩
 clear Q D hf hm hq hot hgl uC hi vD jX jk hl1 jO jl pe v0 v1 v2 v3 v4 vy vz qj
 have vJ:Hid (Bx h3.drew w.heap.size (yv xn ck cs ct cl cq ci cp cg id xl qty xm xk)):=cf (U xW)
 have qg:Hid (GS G B r h3.drew vq g):=zx (U uo) ⟨rfl,rfl,rfl,Nat.le_refl _,fun _ _=>rfl⟩
 have af:Hid (Kp G vq w h3.drew):=kp_drew (U xt)
 have vz:=zb (U vJ) 11 rfl
 have c13:=zb (U qg).box 13 rfl
 have q13:=zd (U qg).box 13 (by show 13 < 16; decide)
 go_wp2_with fail
 refine zS 11 (by kernel_rfl) (by kernel_rfl) ?_
 simp only [yU,List.take_zero,yV,List.drop_zero]
 repeat still_step
 refine wpStill_nil ?_
 have uS:Hid (GS G B r (h3.drew.setCell (J G 13) (H (g.tk.left - qty))) vq { g with tk:={ g.tk with left:=g.tk.left - qty } }):=gs_set (U qg) 13 _ (by decide) rfl rfl
 have xG:=M (kp_set (U af) 13 (H (g.tk.left - qty)))
 have vI:Hid (Bx (h3.drew.setCell (J G 13) (H (g.tk.left - qty))) w.heap.size (yv xn ck cs ct cl cq ci cp cg id xl qty xm xk)):=fd (U vJ) (by omega)
 go_wp2_with fail
 change Code.wp _ _ _ _ (h3.drew.setCell (J G 13) (H (g.tk.left - qty)))
 generalize h3.drew.setCell (J G 13) (H (g.tk.left - qty)) = ho at uS xG vI ⊢
 clear vz c13 q13
 have xE:Hid (Bx ho.drew w.heap.size (yv xn ck cs ct cl cq ci cp cg id xl qty xm xk)):=cf (U vI)
 have uk:Hid (GS G B r ho.drew vq { g with tk:={ g.tk with left:=g.tk.left - qty } }):=zx (U uS) ⟨rfl,rfl,rfl,Nat.le_refl _,fun _ _=>rfl⟩
 have xO:Hid (Kp G vq w ho.drew):=kp_drew (U xG)
 have vy:=zb (U xE) 10 rfl
 have vz:=zb (U xE) 11 rfl
 refine zS 7 (by kernel_rfl) (by kernel_rfl) ?_
 simp only [yU,List.take_zero,yV,List.drop_zero]
 repeat still_step
 refine wpStill_nil ?_
 go_wp2_with fail
 refine (gm G 1 B g.nx xl qty vq g.l i o _ (zb (U uk).box 1 rfl) (zb (U uk).box 2 rfl) (zd (U uk).box 2 (by show 2 < 16; decide)) (U uk).row (U uk).nq (U uk).lt (U uk).base (yO (U HI).len (by decide)) (U bA) (U HLI) (U HQ01).1 (U HQ01).2 (U HOL).2).mono ?_
 rintro e w9 ⟨uG,rfl,hc9,ho9,bO⟩
 have HG9:=M (gs_took (U uk) hc9 ho9 bO)
 have qI:=M (kp_took (U xO) bO)
 clear hc9 ho9 bO
 go_wp2_with fail
 go_end0
 refine U uX _ uG (U uc) (U qI) ?_
 rw [U uY]
 simp only [ex (U bA) (U HLI)]
 exact U HG9
theorem expire_chk {G B r:Nat} {vq:Value} {g:Gr} (e:Ev) (w:World) (h:GS G B r w vq g) (hi:GI g) (he:okE e = true) (E:e.kind = 9) (hg:e.cmd.g.size ≤ maxLen):Calls Tryz.prog 102 #[I G 0,evV e] w fun x w'=>Chk G B r vq g e w x w':=by
 have hsf:=sfl
 have hG:=h.lt
 have jU:=h.base
 have ux:Hid (zD g e = if dueR g e ≠ 0 then dueR g e else 0):=by show _ = _; simp [zD,E]
 have uY:Hid (takG g e = ⟨g.nx,hitI g.l (dueG g).id (dueG g).qty,g.bg,g.cm,g.tk⟩):=by show _ = _; rw [takG,step9 E]
 have vn:Hid (∀ k w',zD g e = k→k ≠ 0→Kp G vq w w'→Chk G B r vq g e w (.panicked (brk k)) w'):=fun k w' Q D X=>chk_no Q D X
 have uX:Hid (∀ w' uG,zD g e = 0→Kp G vq w w'→GS G B r w' uG (takG g e)→Chk G B r vq g e w (.returned (.tuple #[])) w'):=fun w' uG Q D X=>chk_ok Q D X
 have jF:Hid (∀ W,GS G B r W vq g→Calls Tryz.prog 153 #[I G 0,evV e] W fun x w'=>x = outD (dueR g e) (dueG g)∧yn W w'):=fun W hW=>gz e W hW hi
 have HR9:Hid (zD g e = 0→g.bg = 8∧∃ o,g.l.find? isDy = some o∧dueG g = ⟨9,o.id,0,o.left,0⟩∧e.id = o.id∧e.qty = o.left):=rule9 E
 have HI:=M hi
 generalize Chk G B r vq g e w = C at vn uX ⊢
 generalize zD g e = ru at vn uX ux HR9
 generalize takG g e = g' at uY uX
 generalize dueR g e = dr at jF ux
 generalize dueG g = d at jF uY HR9
 obtain ⟨xn,⟨ck,cs,ct,cl,cq,ci,cp,cg⟩,id,xl,qty,xm,xk⟩:=e
 simp only at E hg
 try simp only at ux uY
 unfold evV at jF
 simp only at jF HR9
 unfold evV
 simp only
 obtain ⟨xR,HX⟩:=ie w (yv xn ck cs ct cl cq ci cp cg id xl qty xm xk) 37
 have HS:Hid ((w.alloc (O (yv xn ck cs ct cl cq ci cp cg id xl qty xm xk).toArray 37)).heap.size = w.heap.size + 1):=by show _ = _; simp
 have HG:=M (zx h xR)
 have HB:Hid (Kp G vq w (w.alloc (O (yv xn ck cs ct cl cq ci cp cg id xl qty xm xk).toArray 37))):=kp_of xR
 clear h xR hi he E hg
 go_enter Tryz.func102,Tryz.ntmps102
 refine ic fun xh HK=>?_
 go_wp2_with fail
 refine U HK _ _ ?_
 clear HK
 generalize (w.alloc (O (yv xn ck cs ct cl cq ci cp cg id xl qty xm xk).toArray 37)) = W1 at HS HX HG HB ⊢
 obtain ⟨e0,e1,e2,e3,e4,e5,e6,e7,e8,e9,vy,vz,qj,qk⟩:=yz (U HX)
 go_wp2_with fail
 refine (U jF W1 (U HG)).mono ?_
 rintro x w2 ⟨hx,xP⟩
 by_cases hs:dr = 0
 case neg =>
  rw [outD_no hs] at hx
  subst hx
  go_wp2_with fail
  exact ⟨rfl,U vn _ _ (by rw [U ux,if_pos hs]) hs (cB (U HB) xP)⟩
 rw [outD_ok hs] at hx
 subst hx
 have HDZ:=M hs
 have uc:=M (U ux)
 rw [if_neg (not_not_intro hs)] at uc
 clear hs ux
 obtain ⟨dk,di,dt,dq,dp⟩:=d
 unfold duV
 simp only at uc ⊢
 have xQ:=gZ w2 (O #[H dk,H di,H dt,H dq,H dp] 39)
 have oB:=xP.trans (xQ.mono xP.size)
 have xW:=M (zl (U HX) oB (by have:=U HS; omega))
 have uo:=M (zx (U HG) oB)
 have xt:=M (cB (U HB) oB)
 have HV2:=M (zy w2 [H dk,H di,H dt,H dq,H dp] 39)
 have HZ2:Hid (w.heap.size < w2.heap.size∧w2.heap.size < (w2.alloc (O #[H dk,H di,H dt,H dq,H dp] 39)).heap.size):=⟨by have:=U HS; have:=xP.size; omega,by simp⟩
 clear xP xQ oB e0 e1 e2 e3 e4 e5 e6 e7 e8 e9 vy vz qj qk HX HG HB HS
 obtain ⟨h8,o,hf,hd,-⟩:=U HR9 (U uc)
 simp only [Du.mk.injEq] at hd
 obtain ⟨rfl,rfl,rfl,rfl,rfl⟩:=hd
 have hgl:=(U HI).good (.inl (by omega))
 obtain ⟨i,hi⟩:=find_at hf
 have vD:=dN hgl.rise hi
 have jX:=hgl.left o (yP hi)
 have bA:=M vD
 have HLI:=M hi
 have HOL:=M jX
 clear h8 hf hgl hi vD jX HR9
 go_wp2_with fail
 generalize (w2.alloc (O #[H 9,H o.id,H 0,H o.left,H 0] 39)) = h3 at xW uo xt HV2 HZ2 ⊢
 have vJ:Hid (Bx h3.drew w.heap.size (yv xn ck cs ct cl cq ci cp cg id xl qty xm xk)):=cf (U xW)
 have qg:Hid (GS G B r h3.drew vq g):=zx (U uo) ⟨rfl,rfl,rfl,Nat.le_refl _,fun _ _=>rfl⟩
 have af:Hid (Kp G vq w h3.drew):=kp_drew (U xt)
 have v1:h3.drew.cell? (J w2.heap.size 1) = some (H o.id):=zb (U HV2) 1 rfl
 have v3:h3.drew.cell? (J w2.heap.size 3) = some (H o.left):=zb (U HV2) 3 rfl
 refine zS 7 (by kernel_rfl) (by kernel_rfl) ?_
 simp only [yU,List.take_zero,yV,List.drop_zero]
 repeat still_step
 refine wpStill_nil ?_
 go_wp2_with fail
 refine (gm G 1 B g.nx o.id o.left vq g.l i o _ (zb (U qg).box 1 rfl) (zb (U qg).box 2 rfl) (zd (U qg).box 2 (by show 2 < 16; decide)) (U qg).row (U qg).nq (U qg).lt (U qg).base (yO (U HI).len (by decide)) (U bA) (U HLI) (by have:=U HOL; omega) (Int.le_refl _) (U HOL).2).mono ?_
 rintro e w9 ⟨uG,rfl,hc9,ho9,bO⟩
 have HG9:=M (gs_took (U qg) hc9 ho9 bO)
 have qI:=M (kp_took (U af) bO)
 clear hc9 ho9 bO
 go_wp2_with fail
 go_end0
 refine U uX _ uG (U uc) (U qI) ?_
 rw [U uY]
 simp only [ex (U bA) (U HLI)]
 exact U HG9
theorem cancel_chk {G B r:Nat} {vq:Value} {g:Gr} (e:Ev) (w:World) (h:GS G B r w vq g) (hi:GI g) (he:okE e = true) (E:e.kind = 6) (hg:e.cmd.g.size ≤ maxLen):Calls Tryz.prog 99 #[I G 0,evV e] w fun x w'=>Chk G B r vq g e w x w':=by
 have hsf:=sfl
 have hG:=h.lt
 have jU:=h.base
 have ux:Hid (zD g e = if zU g e ≠ 0 then zU g e else if e.qty = leftAt g.l e.id then 0 else 7):=by show _ = _; simp [zD,E]
 have uY:Hid (takG g e = ⟨g.nx,hitI g.l e.id e.qty,g.bg,g.cm,g.tk⟩):=by show _ = _; rw [takG,step6 E]
 have vn:Hid (∀ k w',zD g e = k→k ≠ 0→Kp G vq w w'→Chk G B r vq g e w (.panicked (brk k)) w'):=fun k w' Q D X=>chk_no Q D X
 have uX:Hid (∀ w' uG,zD g e = 0→Kp G vq w w'→GS G B r w' uG (takG g e)→Chk G B r vq g e w (.returned (.tuple #[])) w'):=fun w' uG Q D X=>chk_ok Q D X
 have qb:Hid (∀ W,GS G B r W vq g→Calls Tryz.prog 148 #[I G 0,evV e] W fun x w'=>x = outR (zU g e)∧yn W w'):=fun W hW=>start_any e W hW hi (by rw [E]; decide) hg
 have HPC:Hid (zU g e = 0→GoodL g.l∧∃ (k:Nat) (o:Od),plc g.l e.id = k∧g.l[k]? = some o):=fun h0=>⟨hi.good (.inl (by rw [(ej h0).1]; decide)),by have D:=(ej h0).2; simp only [da,E] at D; obtain ⟨k,o,a,b,_⟩:=plc_pos (ref_can D); exact ⟨k,o,a,b⟩⟩
 have HI:=M hi
 generalize Chk G B r vq g e w = C at vn uX ⊢
 generalize zD g e = ru at vn uX ux
 generalize takG g e = g' at uY uX
 generalize zU g e = sr at qb HPC ux
 obtain ⟨xn,⟨ck,cs,ct,cl,cq,ci,cp,cg⟩,id,xl,qty,xm,xk⟩:=e
 simp only at E hg
 try simp only at ux uY
 unfold evV at qb
 simp only at qb HPC
 unfold evV
 simp only
 obtain ⟨xR,HX⟩:=ie w (yv xn ck cs ct cl cq ci cp cg id xl qty xm xk) 37
 have HS:Hid ((w.alloc (O (yv xn ck cs ct cl cq ci cp cg id xl qty xm xk).toArray 37)).heap.size = w.heap.size + 1):=by show _ = _; simp
 have HG:=M (zx h xR)
 have HB:Hid (Kp G vq w (w.alloc (O (yv xn ck cs ct cl cq ci cp cg id xl qty xm xk).toArray 37))):=kp_of xR
 clear h xR hi he E hg
 go_enter Tryz.func99,Tryz.ntmps99
 refine ic fun xh HK=>?_
 go_wp2_with fail
 refine U HK _ _ ?_
 clear HK
 generalize (w.alloc (O (yv xn ck cs ct cl cq ci cp cg id xl qty xm xk).toArray 37)) = W1 at HS HX HG HB ⊢
 obtain ⟨e0,e1,e2,e3,e4,e5,e6,e7,e8,e9,vy,vz,qj,qk⟩:=yz (U HX)
 go_wp2_with fail
 refine (U qb W1 (U HG)).mono ?_
 rintro x w2 ⟨hx,xP⟩
 have xW:=M (zl (U HX) xP (by have:=U HS; omega))
 have uo:=M (zx (U HG) xP)
 have xt:=M (cB (U HB) xP)
 have hS2:w.heap.size < w2.heap.size:=by have:=U HS; have:=xP.size; omega
 clear xP e0 e1 e2 e3 e4 e5 e6 e7 e8 e9 vy vz qj qk
 by_cases hs:sr = 0
 case neg =>
  rw [outR_no hs] at hx
  subst hx
  go_wp2_with fail
  exact ⟨rfl,U vn _ _ (by rw [U ux,if_pos hs]) hs (U xt)⟩
 rw [outR_ok hs] at hx
 subst hx
 have HSR:=M hs
 have uc:=M (U ux)
 rw [if_neg (not_not_intro hs)] at uc
 clear hs ux
 obtain ⟨hgl,k,o,vD,kD⟩:=U HPC (U HSR)
 have xC:g.l ≠ []:=by intro h; rw [h] at kD; simp at kD
 have pP:=(yH.1 kD).1
 obtain ⟨gb,cap,rfl,uq,hBg,hgw⟩:=fE (U uo).row xC
 rw [leftAt_at vD kD] at uc
 have jX:=hgl.left o (yP kD)
 have hln:=(U HI).len
 have uS:Hid (w2.cell? (J gb (k * 6 + 3)) = some (H o.left)):=(fh (U uo).row (by omega) kD).1 3 _ rfl
 have qh:=M (zV (U uo).row (by omega))
 have bA:=M vD
 have au:=M kD
 have HOL:=M jX
 have hkl':(k:Int) < g.l.length:=by omega
 have oG:(0:Int) ≤ k:=by omega
 have HRU3:=M (U uc)
 clear hgl vD kD xC jX HPC hln uc
 generalize hol2:o.left = ol at HRU3 uS
 have HOE:=M hol2
 clear hol2
 go_wp2_with fail
 refine zn (RWA (fun f=>{ tmps:=#[I G 0,.agg (yv xn ck cs ct cl cq ci cp cg id xl qty xm xk).toArray,Z,I w.heap.size 0,I G 0,.agg (yv xn ck cs ct cl cq ci cp cg id xl qty xm xk).toArray,.tuple #[],f 0,f 1,f 2,f 3,f 4,f 5,f 6,f 7,f 8,f 9,f 10,f 11,f 12,f 13,f 14,f 15,f 16,f 17,f 18,Z,Z,Z,Z,Z,Z,Z,Z],defers:=[] }) (CVw [some (I w.heap.size 11),some (H qty),some (I G 0),some (I G 0),some (I G 1),some (I G 2),some (.slice (some (J gb 0)) g.l.length cap),some (I G 0),some (I G 0),some (I G 1),some (.agg #[H g.nx,.slice (some (J gb 0)) g.l.length cap]),some (I w.heap.size 9),some (H id),some (H k),some (I gb (k * 6)),some (I gb (k * 6 + 3)),some (H ol),some (.bool (qty == ol)),some (.tuple #[])] (fun j=>j = 18→qty = ol)) 18 (fun V=>V) w2) (by kernel_rfl) ?_ ?_ ?_
 ·exact ⟨fun _=>Z,rfl,⟨fun j hj=>by rw [yJ] at hj; split at hj <;> simp at hj,fun _=>⟨rfl,rfl,rfl,Nat.le_refl _,fun _ _=>rfl⟩,fun hj=>by rw [yJ] at hj; split at hj <;> simp at hj⟩⟩
 ·rintro x hb V ⟨f,rfl,F⟩ hx xN
  have xp:=zX xN hx (acyc _ (by kernel_rfl))
  obtain ⟨V0,xR,eV⟩:=F.m (xp 18 (by simp))
  have hqe:=(F.c 18 (xp 18 (by simp))).2 rfl
  have HQ:=M (U HRU3)
  rw [if_pos hqe] at HQ
  subst eV
  have xE:=M (zl (U xW) xR hS2)
  have uk:=M (zx (U uo) xR)
  have xO:=M (cB (U xt) xR)
  clear F xp xN hx xR uS qh HRU3
  generalize f 0 = v0,f 1 = v1,f 2 = v2,f 3 = v3,f 4 = v4,f 5 = v5,f 6 = v6,f 7 = v7,f 8 = v8,f 9 = v9,f 10 = v10,f 11 = v11,f 12 = v12,f 13 = v13,f 14 = v14,f 15 = v15,f 16 = v16,f 17 = v17,f 18 = v18
  subst hqe
  dsimp only
  go_wp2_with fail
  have qX:Hid (Bx V.drew w.heap.size (yv xn ck cs ct cl cq ci cp cg id xl qty xm xk)):=cf (U xE)
  have uu:Hid (GS G B r V.drew (.slice (some (J gb 0)) g.l.length cap) g):=zx (U uk) ⟨rfl,rfl,rfl,Nat.le_refl _,fun _ _=>rfl⟩
  have uE:Hid (Kp G (.slice (some (J gb 0)) g.l.length cap) w V.drew):=kp_drew (U xO)
  have e9:=zb (U qX) 9 rfl
  have vz:=zb (U qX) 11 rfl
  refine zS 7 (by kernel_rfl) (by kernel_rfl) ?_
  simp only [yU,List.take_zero,yV,List.drop_zero]
  repeat still_step
  refine wpStill_nil ?_
  go_wp2_with fail
  refine (gm G 1 B g.nx id qty _ g.l k o _ (zb (U uu).box 1 rfl) (zb (U uu).box 2 rfl) (zd (U uu).box 2 (by show 2 < 16; decide)) (U uu).row (U uu).nq (U uu).lt (U uu).base (yO (U HI).len (by decide)) (U bA) (U au) (by have:=U HOL; have:=U HOE; omega) (by have:=U HOE; omega) (U HOL).2).mono ?_
  rintro e w9 ⟨uG,rfl,hc9,ho9,bO⟩
  have HG9:=M (gs_took (U uu) hc9 ho9 bO)
  have qI:=M (kp_took (U uE) bO)
  clear hc9 ho9 bO
  go_wp2_with fail
  go_end0
  refine U uX _ uG (U HQ) (U qI) ?_
  rw [U uY]
  simp only [ex (U bA) (U au)]
  exact U HG9
 ·rintro x hb V i op ⟨f,rfl,F⟩ xo hx Y xu K
  have xA:=M F
  have nw:i < 18→x[18]? = some false:=fun xM=>by
   rcases dm hx (show 18 < 19 by omega) with hq | hw
   ·exact hq
   ·exfalso
    have jK:=yf xo 18 rfl hw 17 rfl
    have Q:=yf xo 17 rfl jK 1 rfl
    have h0:=yf xo 1 rfl Q 0 rfl
    have h16:=yf xo 17 rfl jK 16 rfl
    have vT:=yf xo 16 rfl h16 15 rfl
    have oy:=yf xo 15 rfl vT 14 rfl
    have h6:=yf xo 14 rfl oy 6 rfl
    have jd:=yf xo 14 rfl oy 13 rfl
    have h5:=yf xo 6 rfl h6 5 rfl
    have h4:=yf xo 5 rfl h5 4 rfl
    have X:=yf xo 4 rfl h4 3 rfl
    have D:=yf xo 3 rfl X 2 rfl
    have vi:=yf xo 13 rfl jd 10 rfl
    have vX:=yf xo 13 rfl jd 12 rfl
    have h9:=yf xo 10 rfl vi 9 rfl
    have h8:=yf xo 9 rfl h9 8 rfl
    have h7:=yf xo 8 rfl h8 7 rfl
    have vK:=yf xo 12 rfl vX 11 rfl
    rcases (by omega:i = 0 ∨ i = 1 ∨ i = 2 ∨ i = 3 ∨ i = 4 ∨ i = 5 ∨ i = 6 ∨ i = 7 ∨ i = 8 ∨ i = 9 ∨ i = 10 ∨ i = 11 ∨ i = 12 ∨ i = 13 ∨ i = 14 ∨ i = 15 ∨ i = 16 ∨ i = 17) with rfl | rfl | rfl | rfl | rfl | rfl | rfl | rfl | rfl | rfl | rfl | rfl | rfl | rfl | rfl | rfl | rfl | rfl
    ·exact absurd (h0.symm.trans xu) (by simp)
    ·exact absurd (Q.symm.trans xu) (by simp)
    ·exact absurd (D.symm.trans xu) (by simp)
    ·exact absurd (X.symm.trans xu) (by simp)
    ·exact absurd (h4.symm.trans xu) (by simp)
    ·exact absurd (h5.symm.trans xu) (by simp)
    ·exact absurd (h6.symm.trans xu) (by simp)
    ·exact absurd (h7.symm.trans xu) (by simp)
    ·exact absurd (h8.symm.trans xu) (by simp)
    ·exact absurd (h9.symm.trans xu) (by simp)
    ·exact absurd (vi.symm.trans xu) (by simp)
    ·exact absurd (vK.symm.trans xu) (by simp)
    ·exact absurd (vX.symm.trans xu) (by simp)
    ·exact absurd (jd.symm.trans xu) (by simp)
    ·exact absurd (oy.symm.trans xu) (by simp)
    ·exact absurd (vT.symm.trans xu) (by simp)
    ·exact absurd (h16.symm.trans xu) (by simp)
    ·exact absurd (jK.symm.trans xu) (by simp)
  have um:i < 18→yn w2 V:=fun h=>F.b (nw h)
  have xj:i < 18→∀ (p:Addr) u,w2.cell? p = some u→V.cell? p = some u:=fun h p u hu=>((um h).cell (yL w2 _ hu)).trans hu
  match i,Y with
  | 0,Y =>
   obtain rfl:=ya Y
   have CL:=xj (by omega)
   clear K F um xj nw CL
   rw [if_pos (by rfl)];unfold Oper.wp;go_simp
   exact ⟨upd f 0 (I w.heap.size 11),by simp [upd],zI (U xA) 0 _ ⟨yi rfl,(by intro h; cases h)⟩ (by decide)⟩
  | 1,Y =>
   obtain rfl:=ya Y
   have g0:=(F.c 0 (ye K 0 rfl)).1 _ rfl
   have CL:=xj (by omega)
   have z:=CL (J w.heap.size 11) _ (zb (U xW) 11 rfl)
   clear K F um xj nw CL
   rw [if_pos (by rfl)];unfold Oper.wp;go_simp
   exact ⟨upd f 1 (H qty),by simp [upd,g0],zI (U xA) 1 _ ⟨yi rfl,(by intro h; cases h)⟩ (by decide)⟩
  | 2,Y | 7,Y =>
   obtain rfl:=ya Y
   have CL:=xj (by omega)
   clear K F um xj nw CL
   rw [if_pos (by rfl)];unfold Oper.wp;go_simp
   exact ⟨upd f _ (I G 0),by simp [upd],zI (U xA) _ _ ⟨yi rfl,(by intro h; cases h)⟩ (by decide)⟩
  | 3,Y =>
   obtain rfl:=ya Y
   have g2:=(F.c 2 (ye K 2 rfl)).1 _ rfl
   have CL:=xj (by omega)
   clear K F um xj nw CL
   rw [if_pos (by rfl)];unfold Oper.wp;go_simp
   exact ⟨upd f 3 (I G 0),by simp [upd,g2],zI (U xA) 3 _ ⟨yi rfl,(by intro h; cases h)⟩ (by decide)⟩
  | 4,Y =>
   obtain rfl:=ya Y
   have g3:=(F.c 3 (ye K 3 rfl)).1 _ rfl
   have CL:=xj (by omega)
   clear K F um xj nw CL
   rw [if_pos (by rfl)];unfold Oper.wp;go_simp
   exact ⟨upd f 4 (I G 1),by simp [upd,g3],zI (U xA) 4 _ ⟨yi rfl,(by intro h; cases h)⟩ (by decide)⟩
  | 5,Y =>
   obtain rfl:=ya Y
   have g4:=(F.c 4 (ye K 4 rfl)).1 _ rfl
   have CL:=xj (by omega)
   clear K F um xj nw CL
   rw [if_pos (by rfl)];unfold Oper.wp;go_simp
   exact ⟨upd f 5 (I G 2),by simp [upd,g4],zI (U xA) 5 _ ⟨yi rfl,(by intro h; cases h)⟩ (by decide)⟩
  | 6,Y =>
   obtain rfl:=ya Y
   have g5:=(F.c 5 (ye K 5 rfl)).1 _ rfl
   have CL:=xj (by omega)
   have z:=CL (J G 2) _ (zb (U uo).box 2 rfl)
   clear K F um xj nw CL
   rw [if_pos (by rfl)];unfold Oper.wp;go_simp
   exact ⟨upd f 6 (.slice (some (J gb 0)) g.l.length cap),by simp [upd,g5],zI (U xA) 6 _ ⟨yi rfl,(by intro h; cases h)⟩ (by decide)⟩
  | 8,Y =>
   obtain rfl:=ya Y
   have g7:=(F.c 7 (ye K 7 rfl)).1 _ rfl
   have CL:=xj (by omega)
   clear K F um xj nw CL
   rw [if_pos (by rfl)];unfold Oper.wp;go_simp
   exact ⟨upd f 8 (I G 0),by simp [upd,g7],zI (U xA) 8 _ ⟨yi rfl,(by intro h; cases h)⟩ (by decide)⟩
  | 9,Y =>
   obtain rfl:=ya Y
   have g8:=(F.c 8 (ye K 8 rfl)).1 _ rfl
   have CL:=xj (by omega)
   clear K F um xj nw CL
   rw [if_pos (by rfl)];unfold Oper.wp;go_simp
   exact ⟨upd f 9 (I G 1),by simp [upd,g8],zI (U xA) 9 _ ⟨yi rfl,(by intro h; cases h)⟩ (by decide)⟩
  | 10,Y =>
   obtain rfl:=ya Y
   have g9:=(F.c 9 (ye K 9 rfl)).1 _ rfl
   have CL:=xj (by omega)
   have z1:=CL (J G 1) _ (zb (U uo).box 1 rfl)
   have z2:=CL (J G 2) _ (zb (U uo).box 2 rfl)
   clear K F um xj nw CL
   rw [if_pos (by rfl)];unfold Oper.wp;go_simp
   exact ⟨upd f 10 (.agg #[H g.nx,.slice (some (J gb 0)) g.l.length cap]),by simp [upd,g9],zI (U xA) 10 _ ⟨yi rfl,(by intro h; cases h)⟩ (by decide)⟩
  | 11,Y =>
   obtain rfl:=ya Y
   have CL:=xj (by omega)
   clear K F um xj nw CL
   rw [if_pos (by rfl)];unfold Oper.wp;go_simp
   exact ⟨upd f 11 (I w.heap.size 9),by simp [upd],zI (U xA) 11 _ ⟨yi rfl,(by intro h; cases h)⟩ (by decide)⟩
  | 12,Y =>
   obtain rfl:=ya Y
   have ql:=(F.c 11 (ye K 11 rfl)).1 _ rfl
   have CL:=xj (by omega)
   have z:=CL (J w.heap.size 9) _ (zb (U xW) 9 rfl)
   clear K F um xj nw CL
   rw [if_pos (by rfl)];unfold Oper.wp;go_simp
   exact ⟨upd f 12 (H id),by simp [upd,ql],zI (U xA) 12 _ ⟨yi rfl,(by intro h; cases h)⟩ (by decide)⟩
  | 13,Y =>
   obtain rfl:=ya Y
   have qL:=(F.c 10 (ye K 10 rfl)).1 _ rfl
   have ud:=(F.c 12 (ye K 12 rfl)).1 _ rfl
   have CL:=xj (by omega)
   have hw:=nw (by omega)
   have HRV:=M (zh (U qh) (um (by omega)) hU)
   clear K F um xj nw CL
   rw [if_pos (by rfl)];unfold Oper.wp;go_simp
   refine (fR g.nx _ g.l id V (U HRV)).mono ?_
   rw [U bA]
   rintro e w4 ⟨rfl,xy⟩
   exact ⟨upd f 13 (H k),by simp [upd,qL,ud],zI (fo (U xA) hw xy) 13 _ ⟨yi rfl,(by intro h; cases h)⟩ (by decide)⟩
  | 14,Y =>
   obtain rfl:=ya Y
   have g6:=(F.c 6 (ye K 6 rfl)).1 _ rfl
   have kB:=(F.c 13 (ye K 13 rfl)).1 _ rfl
   have CL:=xj (by omega)
   clear K F um xj nw CL
   rw [if_pos (by rfl)];unfold Oper.wp;go_simp
   exact ⟨upd f 14 (I gb (k * 6)),by simp [upd,g6,kB],zI (U xA) 14 _ ⟨yi rfl,(by intro h; cases h)⟩ (by decide)⟩
  | 15,Y =>
   obtain rfl:=ya Y
   have kR:=(F.c 14 (ye K 14 rfl)).1 _ rfl
   have CL:=xj (by omega)
   clear K F um xj nw CL
   rw [if_pos (by rfl)];unfold Oper.wp;go_simp
   exact ⟨upd f 15 (I gb (k * 6 + 3)),by simp [upd,kR],zI (U xA) 15 _ ⟨yi rfl,(by intro h; cases h)⟩ (by decide)⟩
  | 16,Y =>
   obtain rfl:=ya Y
   have g15:=(F.c 15 (ye K 15 rfl)).1 _ rfl
   have CL:=xj (by omega)
   have z:=CL (J gb (k * 6 + 3)) _ (U uS)
   clear K F um xj nw CL
   rw [if_pos (by rfl)];unfold Oper.wp;go_simp
   exact ⟨upd f 16 (H ol),by simp [upd,g15],zI (U xA) 16 _ ⟨yi rfl,(by intro h; cases h)⟩ (by decide)⟩
  | 17,Y =>
   obtain rfl:=ya Y
   have g1:=(F.c 1 (ye K 1 rfl)).1 _ rfl
   have g16:=(F.c 16 (ye K 16 rfl)).1 _ rfl
   have CL:=xj (by omega)
   clear K F um xj nw CL
   rw [if_pos (by rfl)];unfold Oper.wp;go_simp
   exact ⟨upd f 17 (.bool (qty == ol)),by simp [upd,g1,g16],zI (U xA) 17 _ ⟨yi rfl,(by intro h; cases h)⟩ (by decide)⟩
  | 18,Y =>
   obtain rfl:=ya Y
   have g17:=(F.c 17 (ye K 17 rfl)).1 _ rfl
   have vk:=M (cB (U xt) (F.b xu))
   clear K F um xj nw
   rw [if_pos (by rfl)];unfold Oper.wp;go_simp
   by_cases hqe:qty = ol
   ·have bq:(qty == ol) = true:=by simpa using hqe
    have hd:=cN 7 V
    rw [← bq] at hd
    refine hd.mono ?_
    rintro e w4 ⟨rfl,rfl⟩
    exact ⟨upd f 18 (.tuple #[]),by simp [upd,g17,bq],rw_lastv (T:=fun V=>V) (U xA) xu ⟨yi rfl,fun _=>hqe⟩⟩
   ·have bq:(qty == ol) = false:=by simpa using hqe
    have hd:=cG 7 V
    rw [← bq] at hd
    refine hd.mono ?_
    rintro e w4 ⟨rfl,rfl⟩
    have HQ:=M (U HRU3)
    rw [if_neg hqe] at HQ
    clear hqe bq
    go_wp2_with fail
    exact ⟨rfl,U vn 7 _ (U HQ) (by decide) (U vk)⟩
  | i + 19,Y=>simp at Y
end Go.Proofs.YthhkapcbocgcoaaGreatDoor
