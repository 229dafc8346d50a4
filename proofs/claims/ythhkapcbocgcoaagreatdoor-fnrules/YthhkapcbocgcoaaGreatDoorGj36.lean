/-
  How a check of an event ends, and a group's block written in parts; no function walked.
-/
import Derived.Test.YthhkapcbocgcoaaGreatDoorGj35
set_option linter.unusedVariables false
set_option maxHeartbeats 6400000
set_option maxRecDepth 100000
namespace Go.Proofs.YthhkapcbocgcoaaGreatDoor
open Go.RowKit
def takG (g:Gr) (e:Ev):Gr:={ bV g e with bg:=g.bg }
structure Kp (G:Nat) (vq:Value) (w w':World):Prop where
 os:w'.os = w.os
 tape:w'.tape = w.tape
 output:w'.output = w.output
 size:w.heap.size ≤ w'.heap.size
 block:∀ k,k < w.heap.size→k ≠ G→some k ≠ vq.ownBlock→w'.heap[k]? = w.heap[k]?
section
variable {G:Nat} {vq:Value} {w W W':World}
theorem kp_of (h:yn w W):Kp G vq w W:=⟨h.os,h.tape,h.output,h.size,fun k E _ _=>h.block k E⟩
theorem cB (h:Kp G vq w W) (A:yn W W'):Kp G vq w W' :=
 ⟨A.os.trans h.os,A.tape.trans h.tape,A.output.trans h.output,yO h.size A.size,fun k E Q D=>(A.block k (yK E h.size)).trans (h.block k E Q D)⟩
theorem kp_drew (h:Kp G vq w W):Kp G vq w W.drew:=⟨h.os,h.tape,h.output,h.size,h.block⟩
theorem kp_set (h:Kp G vq w W) (j:Nat) (u:Value):Kp G vq w (W.setCell (J G j) u) :=
 ⟨h.os,h.tape,h.output,by have:=h.size; simpa [World.setCell] using this,fun k E Q D=>(yT _ _ _ _ Q).trans (h.block k E Q D)⟩
theorem kp_sets:∀ {W:World} (h:Kp G vq w W) (o:Nat) (us:List Value),Kp G vq w (W.setCells G o us)
 | _,h,_,[]=>h
 | _,h,o,u :: us=>by rw [World.setCells]; exact kp_sets (kp_set h o u) (o + 1) us
theorem kp_took (h:Kp G vq w W) (ht:TookAt G 1 vq.ownBlock W W'):Kp G vq w W' :=
 ⟨ht.os.trans h.os,ht.tape.trans h.tape,ht.output.trans h.output,yO h.size ht.size,fun k E Q D=>(ht.block k (yK E h.size) Q D).trans (h.block k E Q D)⟩
theorem kp_row {b:Nat} (h:Kp G vq w W) (hg:W.grownBy W' (some b)) (A:vq.ownBlock = some b):Kp G vq w W' :=
 ⟨hg.os.trans h.os,hg.tape.trans h.tape,hg.output.trans h.output,yO h.size hg.size,fun k E Q D=>(hg.block k (yK E h.size) (by rw [← A]; exact D)).trans (h.block k E Q D)⟩
theorem kp_to {B r:Nat} {g:Gr} (h:Kp G vq w W) (hs:GS G B r w vq g):Below B w W :=
 ⟨h.os,h.tape,h.output,h.size,fun k E=>h.block k (yK E (yO hs.hG (Nat.le_of_lt hs.lt))) (by have:=hs.hG; omega) (fun e=>by have:=(hs.row.lt k e.symm).1; omega)⟩
end
def Chk (G B r:Nat) (vq:Value) (g:Gr) (e:Ev) (w:World) (x:Ending) (w':World):Prop:=x = outR (zD g e)∧Kp G vq w w'∧(zD g e = 0→∃ uG,GS G B r w' uG (takG g e))
section
variable {G B r:Nat} {vq:Value} {g:Gr} {e:Ev} {w w':World}
theorem chk_no {k:Int} (h:zD g e = k) (E:k ≠ 0) (A:Kp G vq w w'):Chk G B r vq g e w (.panicked (brk k)) w' :=
 ⟨by rw [h,outR_no E],A,fun h0=>absurd (h.symm.trans h0) E⟩
theorem chk_ok {uG:Value} (h:zD g e = 0) (A:Kp G vq w w') (hs:GS G B r w' uG (takG g e)):Chk G B r vq g e w (.returned (.tuple #[])) w' :=
 ⟨by rw [outR_ok h],A,fun _=>⟨uG,hs⟩⟩
end
theorem GS.base {G B r:Nat} {W:World} {vq:Value} {g:Gr} (h:GS G B r W vq g):B ≤ W.heap.size:=yO h.hG (Nat.le_of_lt h.lt)
theorem bx_setAt {b:Nat}:∀ (us:List Value) (o:Nat) (W:World) (vs:List Value),Bx W b vs→o + us.length ≤ vs.length→Bx (W.setCells b o us) b (vs.take o ++ us ++ vs.drop (o + us.length))
 | [],o,W,vs,h,_=>by simpa [World.setCells] using h
 | u :: us,o,W,vs,h,hl=>by
  have Y:o < vs.length:=by simp at hl; omega
  have Q:=bx_setAt us (o + 1) (W.setCell (J b o) u) (vs.set o u) (eh h Y) (by simp at hl ⊢; omega)
  rw [World.setCells]
  have e:(vs.set o u).take (o + 1) ++ us ++ (vs.set o u).drop (o + 1 + us.length) = vs.take o ++ (u :: us) ++ vs.drop (o + (u :: us).length):=by
   rw [List.drop_set_of_lt (by omega),List.take_add_one,List.take_set_of_le hU,List.getElem?_set_self Y]
   simp [Nat.add_assoc,Nat.add_comm 1 us.length]
  rwa [e] at Q
theorem row_sets {B e sz n:Nat} {v:Value} {xs:List Value} {b:Nat} (A:some b ≠ v.ownBlock):∀ (us:List Value) (o:Nat) (W:World),W.ownsRow B e sz v n xs→(W.setCells b o us).ownsRow B e sz v n xs
 | [],_,_,h=>h
 | u :: us,o,W,h=>by rw [World.setCells]; exact row_sets A us (o + 1) _ (cw h A o u)
theorem kind_sets {p:Nat} {t:TypeId} {x:Nat × Nat}:∀ (us:List Value) (o:Nat) (W:World),(∃ xz,W.heap[p]? = some (.cells xz t x))→∃ xz,(W.setCells p o us).heap[p]? = some (.cells xz t x)
 | [],_,_,h=>h
 | u :: us,o,W,⟨xz,h⟩=>by rw [World.setCells]; exact kind_sets us (o + 1) _ (dh W p o u h)
theorem gs_sets {G B r:Nat} {W:World} {vq:Value} {g g':Gr} (h:GS G B r W vq g) (o:Nat) (us:List Value) (hl:o + us.length ≤ 16) (he:gsV r vq g' = (gsV r vq g).take o ++ us ++ (gsV r vq g).drop (o + us.length)) (hll:g'.l = g.l):GS G B r (W.setCells G o us) vq g' :=
 ⟨by rw [he]; exact bx_setAt us o W _ h.box hl,by rw [hll]; exact row_sets h.nq us o W h.row,kind_sets us o W h.typ,(bx_heap G r h.ne us o W).trans h.mp,h.hG,h.hr⟩
theorem gs_rowset {G B r:Nat} {W W':World} {vq:Value} {g:Gr} {l':List Od} {b:Nat} (h:GS G B r W vq g) (Y:ORow W' B vq l') (hg:W.grownBy W' (some b)) (A:vq.ownBlock = some b):GS G B r W' vq { g with l:=l' }:=by
 have nG:some G ≠ some b:=by rw [← A]; exact h.nq
 have nr:some r ≠ some b:=by rw [← A]; exact h.nr
 refine ⟨cE h.box (hg.block G h.lt nG),Y,?_,(hg.block r h.rlt nr).trans h.mp,h.hG,h.hr⟩
 obtain ⟨xz,hc⟩:=h.typ
 exact ⟨xz,(hg.block G h.lt nG).trans hc⟩
theorem accept_chk {G B r:Nat} {vq:Value} {g:Gr} (e:Ev) (w:World) (h:GS G B r w vq g) (hi:GI g) (he:okE e = true) (E:e.kind = 1) (hg:e.cmd.g.size ≤ maxLen):Calls Tryz.prog 94 #[I G 0,evV e] w fun x w'=>Chk G B r vq g e w x w':=by
 have hsf:=sfl
 have hG:=h.lt
 have jU:=h.base
 have ux:Hid (zD g e = if zU g e ≠ 0 then zU g e else if e.id = g.nx then 0 else 6):=by show _ = _; simp [zD,E]
 have uY:Hid (takG g e = ⟨g.nx + 1,g.l,g.bg,e.cmd,ordO e.cmd e.id⟩):=by show _ = _; rw [takG,step1 E]
 have vn:Hid (∀ k w',zD g e = k→k ≠ 0→Kp G vq w w'→Chk G B r vq g e w (.panicked (brk k)) w'):=fun k w' Q D X=>chk_no Q D X
 have uX:Hid (∀ w' uG,zD g e = 0→Kp G vq w w'→GS G B r w' uG (takG g e)→Chk G B r vq g e w (.returned (.tuple #[])) w'):=fun w' uG Q D X=>chk_ok Q D X
 have qb:Hid (∀ W,GS G B r W vq g→Calls Tryz.prog 148 #[I G 0,evV e] W fun x w'=>x = outR (zU g e)∧yn W w'):=fun W hW=>start_any e W hW hi (by rw [E]; decide) hg
 have oZ:Hid (zU g e = 0→0 ≤ g.nx∧g.nx ≤ 1000000):=fun h0=>⟨(hi.start (ej h0).1).1,(hi.start (ej h0).1).2.1⟩
 have HI:=M hi
 generalize Chk G B r vq g e w = C at vn uX ⊢
 generalize zD g e = ru at vn uX ux
 generalize takG g e = g' at uY uX
 generalize zU g e = sr at qb oZ ux
 obtain ⟨xn,⟨ck,cs,ct,cl,cq,ci,cp,cg⟩,id,xl,qty,xm,xk⟩:=e
 simp only at E hg
 try simp only at ux uY
 unfold evV at qb
 simp only at qb
 unfold evV
 simp only
 obtain ⟨xR,HX⟩:=ie w (yv xn ck cs ct cl cq ci cp cg id xl qty xm xk) 37
 have HS:Hid ((w.alloc (O (yv xn ck cs ct cl cq ci cp cg id xl qty xm xk).toArray 37)).heap.size = w.heap.size + 1):=by show _ = _; simp
 have HG:=M (zx h xR)
 have HB:Hid (Kp G vq w (w.alloc (O (yv xn ck cs ct cl cq ci cp cg id xl qty xm xk).toArray 37))):=kp_of xR
 clear h xR hi he E hg
 go_enter Tryz.func94,Tryz.ntmps94
 refine ic fun xh HK=>?_
 go_wp2_with fail
 refine U HK _ _ ?_
 clear HK
 generalize (w.alloc (O (yv xn ck cs ct cl cq ci cp cg id xl qty xm xk).toArray 37)) = W1 at HS HX HG HB ⊢
 obtain ⟨e0,e1,e2,e3,e4,e5,e6,e7,e8,e9,vy,vz,qj,qk⟩:=yz (U HX)
 go_wp2_with fail
 refine (U qb W1 (U HG)).mono ?_
 rintro x w2 ⟨hx,xP⟩
 have xW:=M (zl (U HX) xP (by have:=U HS; omega))
 have uo:=M (zx (U HG) xP)
 have xt:=M (cB (U HB) xP)
 have hS2:w.heap.size < w2.heap.size:=by have:=U HS; have:=xP.size; omega
 clear xP e0 e1 e2 e3 e4 e5 e6 e7 e8 e9 vy vz qj qk
 by_cases hs:sr = 0
 case neg =>
  rw [outR_no hs] at hx
  subst hx
  go_wp2_with fail
  exact ⟨rfl,U vn _ _ (by rw [U ux,if_pos hs]) hs (U xt)⟩
 rw [outR_ok hs] at hx
 subst hx
 have HSR:=M hs
 have uc:=M (U ux)
 rw [if_neg (not_not_intro hs)] at uc
 clear hs ux
 have vJ:Hid (Bx w2.drew w.heap.size (yv xn ck cs ct cl cq ci cp cg id xl qty xm xk)):=cf (U xW)
 have qg:Hid (GS G B r w2.drew vq g):=zx (U uo) ⟨rfl,rfl,rfl,Nat.le_refl _,fun _ _=>rfl⟩
 have af:Hid (Kp G vq w w2.drew):=kp_drew (U xt)
 have e9:=zb (U vJ) 9 rfl
 have c1:=zb (U qg).box 1 rfl
 go_wp2_with fail
 refine zS 8 (by kernel_rfl) (by kernel_rfl) ?_
 simp only [yU,List.take_zero,yV,List.drop_zero]
 repeat still_step
 refine wpStill_nil ?_
 by_cases uN:id = g.nx
 case neg =>
  have b0:(id == g.nx) = false:=by simpa using uN
  have HQ:=M (U uc)
  rw [if_neg uN] at HQ
  clear uN
  go_wp2_with fail
  refine (cG 6 _).mono ?_
  rintro e w6 ⟨rfl,rfl⟩
  go_wp2_with fail
  exact ⟨rfl,U vn 6 _ (U HQ) (by decide) (U af)⟩
 have b0:(id == g.nx) = true:=by simpa using uN
 have HQ:=M (U uc)
 rw [if_pos uN] at HQ
 clear uN uc
 go_wp2_with fail
 refine (cN 6 _).mono ?_
 rintro e h3 ⟨rfl,hX⟩
 rw [← hX] at vJ qg af
 have hS3:w.heap.size < h3.heap.size:=by rw [hX]; exact hS2
 clear hX e9 c1 b0
 have c1:=zb (U qg).box 1 rfl
 have q1:=zd (U qg).box 1 (by show 1 < 16; decide)
 have qm:=U oZ (U HSR)
 have bd:IntKind.i64.wrap (g.nx + 1) = g.nx + 1:=by rw [IntKind.wrap_i64]; omega
 have uS:Hid (GS G B r (h3.setCell (J G 1) (H (g.nx + 1))) vq { g with nx:=g.nx + 1 }):=gs_set (U qg) 1 _ (by decide) rfl rfl
 have xG:=M (kp_set (U af) 1 (H (g.nx + 1)))
 have vI:Hid (Bx (h3.setCell (J G 1) (H (g.nx + 1))) w.heap.size (yv xn ck cs ct cl cq ci cp cg id xl qty xm xk)):=fd (U vJ) (by omega)
 have hS4:w.heap.size < (h3.setCell (J G 1) (H (g.nx + 1))).heap.size:=by simpa [World.setCell] using hS3
 have e1:=zb (U vI) 1 rfl
 have e2:=zb (U vI) 2 rfl
 have e3:=zb (U vI) 3 rfl
 have e4:=zb (U vI) 4 rfl
 have e5:=zb (U vI) 5 rfl
 have e6:=zb (U vI) 6 rfl
 have e7:=zb (U vI) 7 rfl
 have e8:=zb (U vI) 8 rfl
 have e9:=zb (U vI) 9 rfl
 go_wp2_with fail
 refine (gW ⟨ck,cs,ct,cl,cq,ci,cp,cg⟩ _).mono ?_
 rintro e ho ⟨rfl,uj⟩
 have uu:=M (zx (U uS) uj)
 have qX:=M (zl (U vI) uj hS4)
 have uE:=M (cB (U xG) uj)
 have hS5:w.heap.size < ho.heap.size:=yK hS4 uj.size
 clear uj e1 e2 e3 e4 e5 e6 e7 e8 e9 c1 q1 bd hS4 hS3 uS vI xG vJ qg af
 unfold noV
 simp only
 have c4:=zb (U uu).box 4 rfl
 have q4:=zd (U uu).box 4 (by show 4 < 16; decide)
 have c5:=zb (U uu).box 5 rfl
 have q5:=zd (U uu).box 5 (by show 5 < 16; decide)
 have c6:=zb (U uu).box 6 rfl
 have q6:=zd (U uu).box 6 (by show 6 < 16; decide)
 have c7:=zb (U uu).box 7 rfl
 have q7:=zd (U uu).box 7 (by show 7 < 16; decide)
 have c8:=zb (U uu).box 8 rfl
 have q8:=zd (U uu).box 8 (by show 8 < 16; decide)
 have c9:=zb (U uu).box 9 rfl
 have q9:=zd (U uu).box 9 (by show 9 < 16; decide)
 go_wp2_with fail
 change Code.wp _ _ _ _ (World.setCells ho G 4 [H cs,H ct,H cl,H cq,yj cp,yk cg])
 have qE:Hid (GS G B r (World.setCells ho G 4 [H cs,H ct,H cl,H cq,yj cp,yk cg]) vq ⟨g.nx + 1,g.l,g.bg,⟨ck,cs,ct,cl,cq,ci,cp,cg⟩,g.tk⟩):=gs_sets (U uu) 4 _ (by simp) rfl rfl
 have uT:Hid (Bx (World.setCells ho G 4 [H cs,H ct,H cl,H cq,yj cp,yk cg]) w.heap.size (yv xn ck cs ct cl cq ci cp cg id xl qty xm xk)):=cE (U qX) (bx_heap G w.heap.size (by omega) _ 4 ho)
 have vV:=M (kp_sets (U uE) 4 [H cs,H ct,H cl,H cq,yj cp,yk cg])
 have hS6:w.heap.size < (World.setCells ho G 4 [H cs,H ct,H cl,H cq,yj cp,yk cg]).heap.size:=yL _ _ (zb (U uT) 0 rfl)
 generalize World.setCells ho G 4 [H cs,H ct,H cl,H cq,yj cp,yk cg] = yl at qE uT vV hS6 ⊢
 clear c4 q4 c5 q5 c6 q6 c7 q7 c8 q8 c9 q9 uu qX uE hS5
 have HOR:=M (fun W=>order_any ⟨ck,cs,ct,cl,cq,ci,cp,cg⟩ id W)
 unfold noV at HOR
 unfold ordO at uY
 simp only at uY HOR
 generalize tk cp = tkp at uY HOR
 have hZG:=U qE
 clear hZG
 refine zn (RWA (fun f=>{ tmps:=#[I G 0,.agg (yv xn ck cs ct cl cq ci cp cg id xl qty xm xk).toArray,Z,I w.heap.size 0,I G 0,.agg (yv xn ck cs ct cl cq ci cp cg id xl qty xm xk).toArray,.tuple #[],I w.heap.size 9,H id,I G 0,I G 0,I G 1,I G 1,H g.nx,.bool (id == g.nx),.tuple #[],I G 0,I G 0,I G 1,I G 1,H g.nx,H (g.nx + 1),I G 0,I G 1,I G 1,I G 0,I w.heap.size 1,.agg (yx ck cs ct cl cq ci cp cg).toArray,.agg #[H cs,H ct,H cl,H cq,yj cp,yk cg],I G 0,I G 4,f 0,f 1,f 2,f 3,f 4,f 5,f 6,f 7,f 8,f 9],defers:=[] }) (CVw [some (I G 0),some (I G 0),some (I G 0),some (I G 4),some (.agg #[H cs,H ct,H cl,H cq,yj cp,yk cg]),some (I w.heap.size 9),some (H id),some (.agg (yw id cs tkp cq cl cg).toArray),some (I G 0),some (I G 10),none] (fun _=>True)) 10 (fun V=>World.setCells V G 10 (yw id cs tkp cq cl cg)) yl) (by kernel_rfl) ?_ ?_ ?_
 ·exact ⟨fun _=>Z,rfl,⟨fun j hj=>by rw [yJ] at hj; split at hj <;> simp at hj,fun _=>⟨rfl,rfl,rfl,Nat.le_refl _,fun _ _=>rfl⟩,fun hj=>by rw [yJ] at hj; split at hj <;> simp at hj⟩⟩
 ·rintro x hb V ⟨f,rfl,F⟩ hx xN
  have xp:=zX xN hx (acyc _ (by kernel_rfl))
  obtain ⟨V0,xR,eV⟩:=F.m (xp 10 (by simp))
  have qP:=M (zx (U qE) xR)
  have jn:=M (cB (U vV) xR)
  clear F xp xN hx xR
  subst eV
  generalize f 0 = v0,f 1 = v1,f 2 = v2,f 3 = v3,f 4 = v4,f 5 = v5,f 6 = v6,f 7 = v7,f 8 = v8,f 9 = v9
  go_end0
  refine U uX _ vq (U HQ) (kp_sets (U jn) 10 _) ?_
  rw [U uY]
  exact gs_sets (U qP) 10 _ (by simp) rfl rfl
 ·rintro x hb V i op ⟨f,rfl,F⟩ xo hx Y xu K
  have xA:=M F
  have nw:i < 10→x[10]? = some false:=fun xM=>by
   rcases dm hx (show 10 < 11 by omega) with hq | hw
   ·exact hq
   ·exfalso
    have h0:=yf xo 10 rfl hw 0 rfl
    have Q:=yf xo 10 rfl hw 1 rfl
    have D:=yf xo 10 rfl hw 2 rfl
    have X:=yf xo 10 rfl hw 3 rfl
    have h4:=yf xo 10 rfl hw 4 rfl
    have h5:=yf xo 10 rfl hw 5 rfl
    have h6:=yf xo 10 rfl hw 6 rfl
    have h7:=yf xo 10 rfl hw 7 rfl
    have h9:=yf xo 10 rfl hw 9 rfl
    have h8:=yf xo 9 rfl h9 8 rfl
    rcases (by omega:i = 0 ∨ i = 1 ∨ i = 2 ∨ i = 3 ∨ i = 4 ∨ i = 5 ∨ i = 6 ∨ i = 7 ∨ i = 8 ∨ i = 9) with rfl | rfl | rfl | rfl | rfl | rfl | rfl | rfl | rfl | rfl
    ·exact absurd (h0.symm.trans xu) (by simp)
    ·exact absurd (Q.symm.trans xu) (by simp)
    ·exact absurd (D.symm.trans xu) (by simp)
    ·exact absurd (X.symm.trans xu) (by simp)
    ·exact absurd (h4.symm.trans xu) (by simp)
    ·exact absurd (h5.symm.trans xu) (by simp)
    ·exact absurd (h6.symm.trans xu) (by simp)
    ·exact absurd (h7.symm.trans xu) (by simp)
    ·exact absurd (h8.symm.trans xu) (by simp)
    ·exact absurd (h9.symm.trans xu) (by simp)
  have um:i < 10→yn yl V:=fun h=>F.b (nw h)
  have xj:i < 10→∀ (p:Addr) u,yl.cell? p = some u→V.cell? p = some u:=fun h p u hu=>((um h).cell (yL yl _ hu)).trans hu
  match i,Y with
  | 0,Y | 1,Y =>
   obtain rfl:=ya Y
   have CL:=xj (by omega)
   clear K F um xj nw CL
   rw [if_pos (by rfl)];unfold Oper.wp;go_simp
   exact ⟨upd f _ (I G 0),by simp [upd],zI (U xA) _ _ ⟨yi rfl,trivial⟩ (by decide)⟩
  | 2,Y =>
   obtain rfl:=ya Y
   have g1:=(F.c 1 (ye K 1 rfl)).1 _ rfl
   have CL:=xj (by omega)
   clear K F um xj nw CL
   rw [if_pos (by rfl)];unfold Oper.wp;go_simp
   exact ⟨upd f 2 (I G 0),by simp [upd,g1],zI (U xA) 2 _ ⟨yi rfl,trivial⟩ (by decide)⟩
  | 3,Y =>
   obtain rfl:=ya Y
   have g2:=(F.c 2 (ye K 2 rfl)).1 _ rfl
   have CL:=xj (by omega)
   clear K F um xj nw CL
   rw [if_pos (by rfl)];unfold Oper.wp;go_simp
   exact ⟨upd f 3 (I G 4),by simp [upd,g2],zI (U xA) 3 _ ⟨yi rfl,trivial⟩ (by decide)⟩
  | 4,Y =>
   obtain rfl:=ya Y
   have g3:=(F.c 3 (ye K 3 rfl)).1 _ rfl
   have CL:=xj (by omega)
   have z4:=CL (J G 4) _ (zb (U qE).box 4 rfl)
   have z5:=CL (J G 5) _ (zb (U qE).box 5 rfl)
   have z6:=CL (J G 6) _ (zb (U qE).box 6 rfl)
   have z7:=CL (J G 7) _ (zb (U qE).box 7 rfl)
   have z8:=CL (J G 8) _ (zb (U qE).box 8 rfl)
   have z9:=CL (J G 9) _ (zb (U qE).box 9 rfl)
   clear K F um xj nw CL
   rw [if_pos (by rfl)];unfold Oper.wp;go_simp
   exact ⟨upd f 4 (.agg #[H cs,H ct,H cl,H cq,yj cp,yk cg]),by simp [upd,g3],zI (U xA) 4 _ ⟨yi rfl,trivial⟩ (by decide)⟩
  | 5,Y =>
   obtain rfl:=ya Y
   have CL:=xj (by omega)
   clear K F um xj nw CL
   rw [if_pos (by rfl)];unfold Oper.wp;go_simp
   exact ⟨upd f 5 (I w.heap.size 9),by simp [upd],zI (U xA) 5 _ ⟨yi rfl,trivial⟩ (by decide)⟩
  | 6,Y =>
   obtain rfl:=ya Y
   have g5:=(F.c 5 (ye K 5 rfl)).1 _ rfl
   have CL:=xj (by omega)
   have z:=CL (J w.heap.size 9) _ (zb (U uT) 9 rfl)
   clear K F um xj nw CL
   rw [if_pos (by rfl)];unfold Oper.wp;go_simp
   exact ⟨upd f 6 (H id),by simp [upd,g5],zI (U xA) 6 _ ⟨yi rfl,trivial⟩ (by decide)⟩
  | 7,Y =>
   obtain rfl:=ya Y
   have g4:=(F.c 4 (ye K 4 rfl)).1 _ rfl
   have g6:=(F.c 6 (ye K 6 rfl)).1 _ rfl
   have CL:=xj (by omega)
   have vi:=nw (by omega)
   clear K F um xj nw CL
   rw [if_pos (by rfl)];unfold Oper.wp;go_simp
   refine (U HOR V).mono ?_
   rintro e w4 ⟨rfl,xy⟩
   exact ⟨upd f 7 (.agg (yw id cs tkp cq cl cg).toArray),by simp [upd,g4,g6],zI (fo (U xA) vi xy) 7 _ ⟨yi rfl,trivial⟩ (by decide)⟩
  | 8,Y =>
   obtain rfl:=ya Y
   have g0:=(F.c 0 (ye K 0 rfl)).1 _ rfl
   have CL:=xj (by omega)
   clear K F um xj nw CL
   rw [if_pos (by rfl)];unfold Oper.wp;go_simp
   exact ⟨upd f 8 (I G 0),by simp [upd,g0],zI (U xA) 8 _ ⟨yi rfl,trivial⟩ (by decide)⟩
  | 9,Y =>
   obtain rfl:=ya Y
   have g8:=(F.c 8 (ye K 8 rfl)).1 _ rfl
   have CL:=xj (by omega)
   clear K F um xj nw CL
   rw [if_pos (by rfl)];unfold Oper.wp;go_simp
   exact ⟨upd f 9 (I G 10),by simp [upd,g8],zI (U xA) 9 _ ⟨yi rfl,trivial⟩ (by decide)⟩
  | 10,Y =>
   obtain rfl:=ya Y
   have g9:=(F.c 9 (ye K 9 rfl)).1 _ rfl
   have g7:=(F.c 7 (ye K 7 rfl)).1 _ rfl
   have vA:=F.b xu
   have qP:=M (zx (U qE) vA)
   have pV:=zb (U qP).box 10 rfl
   have q10:=zd (U qP).box 10 (by show 10 < 16; decide)
   have pW:=zb (U qP).box 11 rfl
   have q11:=zd (U qP).box 11 (by show 11 < 16; decide)
   have pX:=zb (U qP).box 12 rfl
   have q12:=zd (U qP).box 12 (by show 12 < 16; decide)
   have pY:=zb (U qP).box 13 rfl
   have q13:=zd (U qP).box 13 (by show 13 < 16; decide)
   have z14:=zb (U qP).box 14 rfl
   have q14:=zd (U qP).box 14 (by show 14 < 16; decide)
   have z15:=zb (U qP).box 15 rfl
   have q15:=zd (U qP).box 15 (by show 15 < 16; decide)
   clear K F um xj nw vA
   rw [if_pos (by rfl)];unfold Oper.wp;go_simp
   exact ⟨f,by simp [g9,g7],rw_last (T:=fun V=>World.setCells V G 10 (yw id cs tkp cq cl cg)) (U xA) xu (fun j hj hx=>⟨fun u hu=>(by subst hj; cases hu),trivial⟩)⟩
  | i + 11,Y=>simp at Y
theorem refuse_chk {G B r:Nat} {vq:Value} {g:Gr} (e:Ev) (w:World) (h:GS G B r w vq g) (hi:GI g) (he:okE e = true) (E:e.kind = 2) (hg:e.cmd.g.size ≤ maxLen):Calls Tryz.prog 95 #[I G 0,evV e] w fun x w'=>Chk G B r vq g e w x w':=by
 have hsf:=sfl
 have hG:=h.lt
 have jU:=h.base
 have ux:Hid (zD g e = if g.bg ≠ 0 then 3 else if refR g.nx g.l e.cmd ≠ 0∧refR g.nx g.l e.cmd = e.reason then 0 else 4):=by show _ = _; unfold zD; rw [if_neg (by rw [E]; decide),if_pos E]
 have uY:Hid (takG g e = ⟨g.nx,g.l,g.bg,g.cm,g.tk⟩):=by show _ = _; rw [takG,step2 E]
 have vn:Hid (∀ k w',zD g e = k→k ≠ 0→Kp G vq w w'→Chk G B r vq g e w (.panicked (brk k)) w'):=fun k w' Q D X=>chk_no Q D X
 have uX:Hid (∀ w' uG,zD g e = 0→Kp G vq w w'→GS G B r w' uG (takG g e)→Chk G B r vq g e w (.returned (.tuple #[])) w'):=fun w' uG Q D X=>chk_ok Q D X
 have HTS:Hid (e.cmd.g.size ≤ maxLen):=hg
 have HI:=M hi
 generalize Chk G B r vq g e w = C at vn uX ⊢
 generalize zD g e = ru at vn uX ux
 generalize takG g e = g' at uY uX
 obtain ⟨xn,⟨ck,cs,ct,cl,cq,ci,cp,cg⟩,id,xl,qty,xm,xk⟩:=e
 simp only at E hg
 try simp only at ux uY
 unfold evV
 simp only
 obtain ⟨xR,HX⟩:=ie w (yv xn ck cs ct cl cq ci cp cg id xl qty xm xk) 37
 have HS:Hid ((w.alloc (O (yv xn ck cs ct cl cq ci cp cg id xl qty xm xk).toArray 37)).heap.size = w.heap.size + 1):=by show _ = _; simp
 have HG:=M (zx h xR)
 have HB:Hid (Kp G vq w (w.alloc (O (yv xn ck cs ct cl cq ci cp cg id xl qty xm xk).toArray 37))):=kp_of xR
 clear h xR hi he E hg
 go_enter Tryz.func95,Tryz.ntmps95
 refine ic fun xh HK=>?_
 go_wp2_with fail
 refine U HK _ _ ?_
 clear HK
 generalize (w.alloc (O (yv xn ck cs ct cl cq ci cp cg id xl qty xm xk).toArray 37)) = W1 at HS HX HG HB ⊢
 have c3:=zb (U HG).box 3 rfl
 by_cases h0:g.bg = 0
 case neg =>
  have b0:(g.bg == 0) = false:=by simpa using h0
  have HQ:=M (U ux)
  rw [if_pos h0] at HQ
  clear h0
  go_wp2_with fail
  refine (cG 3 _).mono ?_
  rintro e w6 ⟨rfl,rfl⟩
  go_wp2_with fail
  exact ⟨rfl,U vn 3 _ (U HQ) (by decide) (U HB)⟩
 have b0:(g.bg == 0) = true:=by simpa using h0
 have kt:=M ((U HI).good (.inl (by omega)))
 have oZ:=M ((U HI).start h0)
 have uc:=M (U ux)
 rw [if_neg (not_not_intro h0)] at uc
 clear h0 ux
 go_wp2_with fail
 refine (cN 3 _).mono ?_
 rintro e w2 ⟨rfl,hw2⟩
 rw [← hw2] at HG HX HB HS
 clear hw2 c3 b0
 have xW:=M (U HX)
 have uo:=M (U HG)
 have xt:=M (U HB)
 have hS2:w.heap.size < w2.heap.size:=by have:=U HS; omega
 clear HX HG HB HS
 have vJ:Hid (Bx w2.drew w.heap.size (yv xn ck cs ct cl cq ci cp cg id xl qty xm xk)):=cf (U xW)
 have qg:Hid (GS G B r w2.drew vq g):=zx (U uo) ⟨rfl,rfl,rfl,Nat.le_refl _,fun _ _=>rfl⟩
 have af:Hid (Kp G vq w w2.drew):=kp_drew (U xt)
 have e1:=zb (U vJ) 1 rfl
 have e2:=zb (U vJ) 2 rfl
 have e3:=zb (U vJ) 3 rfl
 have e4:=zb (U vJ) 4 rfl
 have e5:=zb (U vJ) 5 rfl
 have e6:=zb (U vJ) 6 rfl
 have e7:=zb (U vJ) 7 rfl
 have e8:=zb (U vJ) 8 rfl
 have c1:=zb (U qg).box 1 rfl
 have c2:=zb (U qg).box 2 rfl
 have qh:=M (zV (U qg).row (yO (U HI).len (by decide)))
 have qn:=M (oRow_sl (U qg).row)
 go_wp2_with fail
 refine zS 6 (by kernel_rfl) (by kernel_rfl) ?_
 simp only [yU,List.take_zero,yV,List.drop_zero]
 repeat still_step
 refine wpStill_nil ?_
 clear c1 c2 e1 e2 e3 e4 e5 e6 e7 e8
 go_wp2_with fail
 refine (refusal_any g.nx vq g.l ⟨ck,cs,ct,cl,cq,ci,cp,cg⟩ _ (U qh) (U qn) (U kt) (U oZ).1 (U oZ).2.1 (U HTS)).mono ?_
 rintro e w5 ⟨rfl,uj⟩
 have qX:=M (zl (U vJ) uj hS2)
 have uu:=M (zx (U qg) uj)
 have uE:=M (cB (U af) uj)
 clear uj qh qn
 generalize refR g.nx g.l ⟨ck,cs,ct,cl,cq,ci,cp,cg⟩ = rr at uc ⊢
 have qk:=zb (U qX) 13 rfl
 by_cases jY:rr = 0
 case pos =>
  have b0:(rr != 0) = false:=by simpa using jY
  have HQ:=M (U uc)
  rw [if_neg (by simp [jY])] at HQ
  clear jY
  go_wp2_with fail
  refine (cG 4 _).mono ?_
  rintro e w6 ⟨rfl,rfl⟩
  go_wp2_with fail
  exact ⟨rfl,U vn 4 _ (U HQ) (by decide) (U uE)⟩
 have b0:(rr != 0) = true:=by simpa using jY
 by_cases hre:rr = xk
 case neg =>
  have b1:(rr == xk) = false:=by simpa using hre
  have HQ:=M (U uc)
  rw [if_neg (by simp [hre])] at HQ
  clear jY hre
  go_wp2_with fail
  refine (cG 4 _).mono ?_
  rintro e w6 ⟨rfl,rfl⟩
  go_wp2_with fail
  exact ⟨rfl,U vn 4 _ (U HQ) (by decide) (U uE)⟩
 have b1:(rr == xk) = true:=by simpa using hre
 have HQ:=M (U uc)
 rw [if_pos ⟨jY,hre⟩] at HQ
 clear jY hre
 go_wp2_with fail
 refine (cN 4 _).mono ?_
 rintro e w6 ⟨rfl,rfl⟩
 go_wp2_with fail
 go_end0
 refine U uX _ vq (U HQ) (U uE) ?_
 rw [U uY]
 exact U uu
end Go.Proofs.YthhkapcbocgcoaaGreatDoor
