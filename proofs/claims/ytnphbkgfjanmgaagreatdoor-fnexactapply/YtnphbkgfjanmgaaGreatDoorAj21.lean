/-
  What the two functions that write a number's bytes return, proved by walking them: a row of its own with the bytes of the number; nothing that was there is turned.
-/
import Derived.Test.YtnphbkgfjanmgaaGreatDoorAj20
import Derived.Maps.AppendAt
set_option linter.unusedVariables false
set_option maxHeartbeats 6400000
set_option maxRecDepth 100000
namespace Go.Proofs.YtnphbkgfjanmgaaGreatDoor
open Go.RowKit
theorem fold_any (n:Int) (w:World) (h0:-9223372036854775808 ≤ n) (N:n ≤ 9223372036854775807) :
  Calls Tryz.prog 203 #[I n] w fun e w'=>e = .returned (.int .u64 (zz n))∧w' = w:=by
 have HX:=H (fold_eq n h0 N)
 go_enter Tryz.func203,Tryz.ntmps203
 go_wp2
 go_ret
 exact ⟨zC (U HX),rfl⟩
theorem Tryz.arrayLen232:Tryz.prog.arrayLen 232 = 10:=by kernel_rfl
theorem slice_head10 (B k:Nat) (h:k ≤ 9) (W:World) :
  (Instr.sliceAt 232 (J B 0) none (some (I ((k:Int) + 1))) none).run Tryz.prog W = .ok (.slice (some (D B 0)) (k + 1) 10) W:=by
 rw [run_sliceAt_array_h W 232 _ (by kernel_rfl) _ _ (by omega) (by rw [Tryz.arrayLen232]; omega),Tryz.arrayLen232]
 have e:((k:Int) + 1).toNat = k + 1:=by omega
 have hs:(sizeOf (Tryz.prog.elem 232)).run Tryz.prog W = .ok 1 W:=by kernel_rfl
 rw [hs,e]
 simp [slicedAt,Result.andThen,Addr.add]
theorem implPut_any (n:Int) (w:World) (h0:-9223372036854775808 ≤ n) (N:n ≤ 9223372036854775807) :
  Calls Tryz.prog 185 #[I n] w fun e w'=>∃ v,e = .returned v∧OwnT w.heap.size w' v (putU (zz n))∧yp w w':=by
 have HL:=H (fN _ (zz_lt n h0 N))
 have H6:=H (zz_lt n h0 N)
 have HF:=H (fun w=>fold_any n w h0 N)
 clear h0 N
 generalize hz:zz n = u0 at *
 have HZ:=H hz
 clear hz
 go_enter Tryz.func185,Tryz.ntmps185
 go_wp2_with (go_at_call 203; refine (U HF _).mono ?_; rintro e w' ⟨rfl,rfl⟩)
 go_loopw [4,5] (fun u c wr=>∃ (x:Nat) (done:List Int),u = .int .u64 x∧Lt64 x∧c = I done.length∧done ++ putU x = putU u0∧Arr 10 w.heap.size w wr done) (fun u _ _=>(intOf u).toNat)
 case atStart=>exact ⟨u0,[],rfl,U H6,rfl,rfl,arr_start _ _ _ rfl⟩
 case round =>
  obtain ⟨x,done,rfl,hx,rfl,hdone,jO⟩:=hrel
  have HD:=H hdone
  have ba:=putU_at (U HL) hdone
  have hdl':(done.length:Int) < 10:=by omega
  clear hdone
  obtain ⟨v0,hv0⟩:=jO.some (j:=done.length) (by omega)
  have hf0:=jO.free done.length
  by_cases xI:x < 128
  ·have HE:=H (putU_end xI (U HD))
   have HA:=H (arr_step (x:Int) jO (by omega))
   have hsl:=slice_head10 w.heap.size done.length (by omega)
   clear jO
   go_wp2_with fail
   go_ret
   have hE:=U HE
   rw [hE] at HA
   have xz:done.length + 1 = (putU u0).length:=by rw [← hE]; simp
   refine ⟨_,rfl,?_,(U HA).below⟩
   rw [xz]
   exact arr_own (U HA) rfl (by omega)
  ·have uF:(128:Int) ≤ x:=by omega
   have hand:=and127 x hx
   have HA:=H (arr_step ((x:Int) % 128 + 128) jO (by omega))
   clear jO
   go_wp2_with fail
   go_roundw
   case rel=>exact ⟨x / 128,done ++ [(x:Int) % 128 + 128],by go_num,by unfold Lt64 at *; omega,by simp,putU_step xI (U HD),U HA⟩
   case measure=>simp [intOf]; omega
def cz (s:ByteArray):List Int:=putU (zz (cutB s).size) ++ bl (cutB s)
theorem textL_len (s:ByteArray):0 < (cz s).length∧(cz s).length ≤ 1073741824:=by
 have N:=putU_pos (zz (cutB s).size)
 have Y:=ff s
 have h3:=fN (zz (cutB s).size) (zz_lt _ (by omega) (by omega))
 rw [cz,yQ,bl_len]
 omega
theorem implText_any (s:ByteArray) (w:World) (hs:s.size ≤ maxLen) :
  Calls Tryz.prog 190 #[yl s] w fun e w'=>∃ v,e = .returned v∧OwnT w.heap.size w' v (cz s)∧yp w w':=by
 obtain ⟨i0,hi,uK,uL,uZ⟩:=info_parts Tryz.infoByte
 have hc:=ff s
 have HT:=H (textL_len s).2
 have HTL:=H (show cz s = putU (zz (cutB s).size) ++ bl (cutB s) from rfl)
 have HC:=H (fun w=>implCut_any s w hs)
 generalize cutB s = c at *
 generalize cz s = l at *
 clear hs
 go_enter Tryz.func190,Tryz.ntmps190
 go_wp2_with fail
 refine (U HC _).mono ?_
 rintro e w0 ⟨rfl,rfl⟩
 go_wp2_with fail
 refine (implPut_any c.size _ (by omega) (by omega)).mono ?_
 rintro e w1 ⟨v1,rfl,Z,Q⟩
 have HO:=H Z
 have HB:=H Q
 clear Z Q
 go_wp2_with (at_builtin; go_must (refine wpList_append_text _ rfl _ _ 115 9 rfl w0.heap.size 5 i0 Tryz.underlying115 Tryz.underlying9 hi uK uL uZ _ _ rfl (U HO) c rfl (by have:=U HT; rw [U HTL,yQ,bl_len] at this; exact this) (U HB).size ?_); intro v2 w2 kV vh)
 go_ret
 refine ⟨_,rfl,by rw [U HTL]; exact kV,(U HB).grown vh (U HB).size (OwnT.ge (U HO))⟩
def fl8 (u:Nat):List Int:=[(u:Int) / 72057594037927936 % 256,(u:Int) / 281474976710656 % 256,(u:Int) / 1099511627776 % 256,(u:Int) / 4294967296 % 256,
 (u:Int) / 16777216 % 256,(u:Int) / 65536 % 256,(u:Int) / 256 % 256,(u:Int) % 256]
theorem fl8_len (u:Nat):(fl8 u).length = 8:=rfl
theorem Tryz.arrayLen236:Tryz.prog.arrayLen 236 = 8:=by kernel_rfl
theorem slice_all8 (B:Nat) (W:World) :
  (Instr.sliceAt 236 (J B 0) none none none).run Tryz.prog W = .ok (.slice (some (D B 0)) 8 8) W:=by
 rw [run_sliceAt_array_all W 236 _ (by kernel_rfl),Tryz.arrayLen236]
 have hs:(sizeOf (Tryz.prog.elem 236)).run Tryz.prog W = .ok 1 W:=by kernel_rfl
 rw [hs]
 simp [slicedAt,Result.andThen,Addr.add]
theorem implFloat_bits (x u:Nat) (w:World) (hu:fbit x = u) :
  Calls Tryz.prog 188 #[yk x] w fun e w'=>∃ v,e = .returned v∧OwnT w.heap.size w' v (fl8 u)∧yp w w':=by
 have hsl:=slice_all8 w.heap.size
 have HF:=H (fun w=>hu ▸ fT x w)
 clear hu
 go_enter Tryz.func188,Tryz.ntmps188
 go_wp2_with (go_at_call 123; refine (U HF _).mono ?_; rintro e w' ⟨rfl,rfl⟩)
 refine wp_loop_rounds 9 ?_
 repeat (rw [rounds_succ]; go_wp2_with fail)
 go_ret
 exact ⟨_,rfl,⟨_,8,_,_,rfl,Nat.le_refl _,heap_alloc_new _ _,by rw [fl8_len]; decide,by simp,by unfold maxLen; omega,by rw [fl8_len]; decide,by simp [fl8]⟩,gp _ _⟩
theorem implFloat_any (x:Nat) (w:World) :
  Calls Tryz.prog 188 #[yk x] w fun e w'=>∃ v,e = .returned v∧OwnT w.heap.size w' v (fl8 (fbit x))∧yp w w' :=
 implFloat_bits x _ w rfl
def Ev.num (e:Ev):Nat→Int
 | 1=>e.cmd.k
 | 2=>e.cmd.s
 | 3=>e.cmd.t
 | 4=>e.cmd.l
 | 5=>e.cmd.q
 | 6=>e.cmd.i
 | 9=>e.id
 | 10=>e.other
 | 11=>e.qty
 | 12=>e.price
 | 13=>e.reason
 | _=>0
theorem ev_num (e:Ev) {o:Nat} (h:plcO o = true):e.vs[o]? = some (I (e.num o)):=by
 rcases (show o = 1 ∨ o = 2 ∨ o = 3 ∨ o = 4 ∨ o = 5 ∨ o = 6 ∨ o = 9 ∨ o = 10 ∨ o = 11 ∨ o = 12 ∨ o = 13 by simp [plcO] at h; omega) with rfl | rfl | rfl | rfl | rfl | rfl | rfl | rfl | rfl | rfl | rfl
 all_goals rfl
structure Ev.fit (e:Ev):Prop where
 n:∀ o,-9223372036854775808 ≤ e.num o∧e.num o ≤ 9223372036854775807
 k:-9223372036854775808 ≤ e.kind∧e.kind ≤ 9223372036854775807
 p:e.cmd.p < 18446744073709551616
 g:e.cmd.g.size ≤ maxLen
def wrF (e:Ev) (o:Nat):List Int:=if o = 7 then fl8 (fbit e.cmd.p) else if o = 8 then cz e.cmd.g else putU (zz (e.num o))
theorem ownT_base {B C:Nat} {w:World} {v:Value} {l:List Int} (h:OwnT C w v l) (hB:B ≤ C):OwnT B w v l:=by
 obtain ⟨g,cap,xF,t,N,Y,h3⟩:=h
 exact ⟨g,cap,xF,t,N,yO hB Y,h3⟩
def WrEnd (w:World) (l:List Int) (r:Ending) (w':World):Prop:=∃ v,r = .returned v∧OwnT w.heap.size w' v l∧yp w w'
theorem writeNum_any (e:Ev) (b o:Nat) (w:World) (he:e.fit) (Z:plcO o = true) (hc:w.cell? (D b 0) = some (.func (.func (plcV o)) #[] #[])) :
  Calls Tryz.prog 184 #[evV e,J b 0] w fun r w'=>WrEnd w (putU (zz (e.num o))) r w':=by
 have xC:=gp w (Obj.cells e.vs.toArray 52)
 have hx:=R (zq w e.vs 52) o (ev_num e Z)
 have HP:=H (fun W=>plc_any o w.heap.size W Z)
 have hpe:=plc_enter o Z
 have xI:=yL w _ hc
 have hc':=(xC.cell (p:=(D b 0)) xI).trans hc
 have HI:=H (fun W=>implPut_any (e.num o) W (he.n o).1 (he.n o).2)
 have HB:=H xC
 have HZ:Hid ((w.alloc (Obj.cells e.vs.toArray 52)).heap.size = w.heap.size + 1):=by show _ = _; simp
 clear xC hc he
 generalize plcV o = f at *
 generalize e.num o = z at *
 unfold evV
 unfold Ev.vs at hx hc' HB HZ
 obtain ⟨xn,⟨ck,L,ct,V,cq,ci,O,cg⟩,id,xj,qty,xk,xi⟩:=e
 simp only at hx hc' HB HZ ⊢
 go_enter Tryz.func184,Tryz.ntmps184
 go_wp2_with fail
 refine (U HP _).mono ?_
 rintro r w1 ⟨rfl,qE⟩
 rw [qE]
 clear qE
 go_wp2_with fail
 refine (U HI _).mono ?_
 rintro r w2 ⟨v,rfl,kV,xK⟩
 have HE:Hid (WrEnd w (putU (zz z)) (.returned v) w2):=⟨v,rfl,ownT_base kV (by rw [U HZ]; omega),(U HB).trans (xK.mono (U HB).size)⟩
 clear kV xK
 go_wp2_with fail
 go_ret
 exact U HE
theorem writePrice_any (e:Ev) (w:World) (he:e.fit):Calls Tryz.prog 150 #[evV e] w fun r w'=>WrEnd w (fl8 (fbit e.cmd.p)) r w':=by
 have hsf:=sfl
 have xC:=gp w (Obj.cells e.vs.toArray 52)
 have hx:=R (zq w e.vs 52) 7 rfl
 have HI:=H (fun W=>implFloat_any e.cmd.p W)
 have HB:=H xC
 have HZ:Hid ((w.alloc (Obj.cells e.vs.toArray 52)).heap.size = w.heap.size + 1):=by show _ = _; simp
 clear xC he
 unfold evV
 unfold Ev.vs at hx HB HZ
 obtain ⟨xn,⟨ck,L,ct,V,cq,ci,O,cg⟩,id,xj,qty,xk,xi⟩:=e
 simp only at hx HB HZ HI ⊢
 go_enter Tryz.func150,Tryz.ntmps150
 go_wp2_with fail
 refine (U HI _).mono ?_
 rintro r w2 ⟨v,rfl,kV,xK⟩
 have HE:Hid (WrEnd w (fl8 (fbit O)) (.returned v) w2):=⟨v,rfl,ownT_base kV (by rw [U HZ]; omega),(U HB).trans (xK.mono (U HB).size)⟩
 clear kV xK
 go_wp2_with fail
 go_ret
 exact U HE
theorem writeTag_any (e:Ev) (w:World) (he:e.fit):Calls Tryz.prog 152 #[evV e] w fun r w'=>WrEnd w (cz e.cmd.g) r w':=by
 have hq:=he.g
 have xC:=gp w (Obj.cells e.vs.toArray 52)
 have hx:=R (zq w e.vs 52) 8 rfl
 have HI:=H (fun W=>implText_any e.cmd.g W he.g)
 have HB:=H xC
 have HZ:Hid ((w.alloc (Obj.cells e.vs.toArray 52)).heap.size = w.heap.size + 1):=by show _ = _; simp
 clear xC he
 unfold evV
 unfold Ev.vs at hx HB HZ
 obtain ⟨xn,⟨ck,L,ct,V,cq,ci,O,cg⟩,id,xj,qty,xk,xi⟩:=e
 simp only at hx HB HZ HI ⊢
 go_enter Tryz.func152,Tryz.ntmps152
 go_wp2_with fail
 refine (U HI _).mono ?_
 rintro r w2 ⟨v,rfl,kV,xK⟩
 have HE:Hid (WrEnd w (cz cg) (.returned v) w2):=⟨v,rfl,ownT_base kV (by rw [U HZ]; omega),(U HB).trans (xK.mono (U HB).size)⟩
 clear kV xK
 go_wp2_with fail
 go_ret
 exact U HE
theorem writeField_any (xo o:Nat) (c:Fc) (e:Ev) (W:World) (he:e.fit) (Z:EvO o) (hf:FF W xo o c):Calls Tryz.prog c.n1 (#[evV e] ++ c.l) W fun r w'=>WrEnd W (wrF e o) r w':=by
 unfold FF at hf
 unfold wrF
 unfold EvO at Z
 rcases Z with rfl | rfl | Z
 ·rw [if_pos rfl] at hf
  subst hf
  exact writePrice_any e W he
 ·rw [if_neg (by decide),if_pos rfl] at hf
  subst hf
  exact writeTag_any e W he
 ·have h7:o ≠ 7:=by intro e; subst e; simp [plcO] at Z
  have h8:o ≠ 8:=by intro e; subst e; simp [plcO] at Z
  rw [if_neg h7,if_neg h8] at hf ⊢
  obtain ⟨b,rfl,N,Y,h3⟩:=hf
  exact writeNum_any e b o W he Z h3
theorem isKind_any (c:Int) (a:Option Addr) (n cap:Nat) (w:World):Calls Tryz.prog 69 #[.agg #[I c,.slice a n cap]] w fun e w'=>e = .returned (.bool (decide (0 < n)))∧yp w w':=by
 go_enter Tryz.func69,Tryz.ntmps69
 go_wp2_with fail
 go_ret
 exact ⟨rfl,by go_grown⟩
theorem bel_gr {w W:World} (h:yp w W) (zb:Nat):w.grownBy W (some zb):=⟨h.os,h.tape,h.output,h.size,fun i hi _=>h.block i hi⟩
theorem gr_bel {w W cl:World} {zb:Nat} (h:w.grownBy W (some zb)) (Y:yp W cl):w.grownBy cl (some zb):=zZ h (bel_gr Y zb)
theorem ff_gr {xo o zb:Nat} {W W':World} {c:Fc} (h:FF W xo o c) (Q:W.grownBy W' (some zb)) (K:zb < xo):FF W' xo o c:=by
 unfold FF at h ⊢
 split
 ·rwa [if_pos ‹_›] at h
 ·rw [if_neg ‹_›] at h
  split
  ·rwa [if_pos ‹_›] at h
  ·rw [if_neg ‹_›] at h
   obtain ⟨b,N,Y,h3,h4⟩:=h
   exact ⟨b,N,Y,yK h3 Q.size,Q.cell h4 (by simp; omega)⟩
theorem event_any (wb:World) (zb:Nat) (v:Value) (l:List Int) (k:Nat) (w:World) (hs:RSr wb zb v l k w) :
  Calls Tryz.prog 122 #[.pointer (some ⟨zb,0,none⟩)] w fun e w'=>EvEnd zb v w (evA l k) e w':=by
 have hsf:=sfl
 have hsfn:=sfn
 have hRw:=hs.lt
 have xz:(l.length:Int) ≤ 65536:=by have:=hs.ll; omega
 have pt:=hs.kk
 have uf:Hid (yp w (w.alloc (A (yw 0 0 0 0 0 0 0 0 ⟨#[]⟩ 0 0 0 0 0).toArray 52))):=gp _ _
 have uD:=H (zq w (yw 0 0 0 0 0 0 0 0 ⟨#[]⟩ 0 0 0 0 0) 52)
 have af:=H (hs.below (U uf) hRw)
 have qU:Hid ((w.alloc (A (yw 0 0 0 0 0 0 0 0 ⟨#[]⟩ 0 0 0 0 0).toArray 52)).heap.size = w.heap.size + 1):=by show _ = _; simp
 have HS:=H hs
 clear hs
 rw [show (yw 0 0 0 0 0 0 0 0 ⟨#[]⟩ 0 0 0 0 0).toArray = (yw 0 0 0 0 0 0 0 0 ⟨#[]⟩ 0 0 0 0 0).toArray from rfl] at uD
 obtain ⟨a,cap,hv⟩:=rd_len (U HS).rd
 go_enter Tryz.func122,Tryz.ntmps122
 go_wp2_with fail
 generalize (w.alloc (A (yw 0 0 0 0 0 0 0 0 ⟨#[]⟩ 0 0 0 0 0).toArray 52)) = W1 at uf uD af qU ⊢
 by_cases vp:l.length ≤ k
 ·have HE:=H (evA_end vp)
  have HR:=H (hv ▸ (U af).r)
  refine (take_end zb 1 k a l.length cap _ (U HR) (by omega) (by omega) (by omega) (by omega) (by omega)).mono ?_
  rintro e w1 ⟨rfl,q,rfl⟩
  go_wp2_with fail
  exact ⟨rfl,evEnd_fail (zZ (bel_gr (U uf) zb) (cN _ _ _)) (U HE) _⟩
 clear hv
 obtain ⟨b,off,uE,rfl,kr,ut,xr⟩:∃ b off uE,v = .slice (some ⟨b,off,none⟩) l.length uE∧b < wb.heap.size∧l.length ≤ uE∧W1.cell? ⟨b,off + k,none⟩ = some (.int .u8 (l.getD k 0)):=by
  obtain ⟨a',c',hv',_,hc⟩:=(U af).rd
  obtain ⟨b,off,rfl,xr⟩:=hc (by intro h; rw [h] at vp; simp at vp)
  have ul:=yL wb _ (xr 0 (by omega))
  exact ⟨b,off,c',hv',ul,(U af).cap _ _ _ hv',((U af).bel.cell (p:=⟨b,off + k,none⟩) ul).trans (xr k (by omega))⟩
 have HR:=H (U af).r
 refine (take_ok zb 1 k b off l.length uE _ (U HR) (by omega) (by omega) ut (by omega)).mono ?_
 rintro e w2 ⟨rfl,q,rfl⟩
 have hgs:=zZ (gr_set W1 ⟨zb,1,none⟩ (I ((k + 1:Nat):Int))) (cN _ q _)
 have uh:=H (zZ (bel_gr (U uf) zb) hgs)
 have qn:=H ((U af).go hgs (((U af).r.step ((k + 1:Nat):Int)).drewN q) (by omega))
 have xJ:=H (bx (U uD) (hgs.block w.heap.size (by rw [U qU]; omega) (by simp; omega)))
 have HZ2:Hid (w.heap.size < ((W1.setCell ⟨zb,1,none⟩ (I ((k + 1:Nat):Int))).drewN q).heap.size):=yK (by rw [U qU]; omega) hgs.size
 have oG:=hgs.cell xr (by have:=(U af).le; simp; omega)
 have hbt:=bts_get (U HS).bb k
 have HSh:=H (fun (h:shF (l.getD k 0) = [])=>evA_no (by omega) h)
 have HYe:=H (fun (h:shF (l.getD k 0) ≠ [])=>evA_yes (by omega) h)
 clear hgs af uD uf HR xr qU HS
 generalize (W1.setCell ⟨zb,1,none⟩ (I ((k + 1:Nat):Int))).drewN q = W2 at uh qn xJ HZ2 oG ⊢
 generalize l.getD k 0 = kd at *
 obtain ⟨jQ,ps⟩:=hbt
 go_wp2_with fail
 refine (shape_any kd W2).mono ?_
 rintro e W3 ⟨fv,fs,rfl,hof,hff,xQ⟩
 have uZ:=U HZ2
 have qd:=(ffs_get hff).1
 have pX:=H hof
 have HF3:=H hff
 have hS3:=(U qn).below xQ (U qn).lt
 have kH:=zf (U xJ) xQ uZ
 have hG3:=gr_bel (U uh) xQ
 have hz3:=yK uZ xQ.size
 obtain ⟨fa,kQ,rfl,hfl,uJ⟩:=hof
 obtain ⟨xy,xG⟩:=gw W3 [I (shC kd),.slice fa fs.length kQ] 110
 have pF:=H (hS3.below xy hS3.lt)
 have HX4r:=H (zf kH xy hz3)
 have uw:=H (gr_bel hG3 xy)
 have vz:=H (zr (U pX) xy yb)
 have HF4:=H (fun (o:Nat) (c:Fc) (h:FF W3 W2.heap.size o c)=>eE h xy yb)
 have HZ4:Hid (W3.heap.size < (W3.alloc (A #[I (shC kd),.slice fa fs.length kQ] 110)).heap.size):=by show _ < _; simp
 rw [show [I (shC kd),.slice fa fs.length kQ].toArray = #[I (shC kd),.slice fa fs.length kQ] from rfl] at xG
 clear hff xQ hS3 kH hG3 uJ xy qn xJ uh pX
 go_wp2_with fail
 generalize (W3.alloc (A #[I (shC kd),.slice fa fs.length kQ] 110)) = W4 at xG pF HX4r uw vz HF4 HZ4 ⊢
 refine (isKind_any (shC kd) fa fs.length kQ W4).mono ?_
 rintro e W5 ⟨rfl,ui⟩
 have hz4:=U HZ4
 have HS5:=H ((U pF).below ui (U pF).lt)
 have HX5r:=H (zf (U HX4r) ui (by omega))
 have uX:=H (zf (U xG) ui hz4)
 have uC:=H (gr_bel (U uw) ui)
 have jy:=H (zr (U vz) ui yb)
 have HF5:=H (fun (o:Nat) (c:Fc) (h:FF W3 W2.heap.size o c)=>eE (U HF4 o c h) ui yb)
 have HZ5:=H (yK hz4 ui.size)
 clear ui pF HX4r xG uw vz HF4 HZ4 hz4
 by_cases xA:fs.length = 0
 ·have HE:=H (U HSh (List.length_eq_zero_iff.1 (qd.trans xA)))
  have HR:=H (U HS5).r
  rw [xA]
  go_wp2_with fail
  refine (dD zb 3 _ _ _ (U HR)).mono ?_
  rintro e w6 ⟨rfl,rfl⟩
  go_wp2_with fail
  exact ⟨rfl,evEnd_fail (U uC) (U HE) _⟩
 have qQ:decide (0 < fs.length) = true:=by simpa using Nat.pos_of_ne_zero xA
 have c50:=R (U uX) 0 rfl
 rw [qQ]
 have HYE:=H (U HYe (by intro h; rw [h] at qd; exact xA qd.symm))
 have oF:=gp W5 (A (yw kd (shC kd) 0 0 0 0 0 0 ⟨#[]⟩ 0 0 0 0 0).toArray 52)
 have vA:Hid (Bx (W5.alloc (A (yw kd (shC kd) 0 0 0 0 0 0 ⟨#[]⟩ 0 0 0 0 0).toArray 52)) W5.heap.size (ev0 kd).vs):=zq W5 (ev0 kd).vs 52
 have HS6:=H ((U HS5).below oF (U HS5).lt)
 have qK:=H (bel_gr oF zb)
 have c51:=R (zf (U uX) oF (U HZ5)) 1 rfl
 clear oF qQ
 go_wp2_with fail
 generalize (W5.alloc (A (yw kd (shC kd) 0 0 0 0 0 0 ⟨#[]⟩ 0 0 0 0 0).toArray 52)) = W6 at vA HS6 qK c51 ⊢
 go_loopw [28] (fun iv wr=>∃ (i n:Nat) (x:Ev),iv = I i∧i ≤ fs.length∧W5.grownBy wr (some zb)∧RSr wb zb (.slice (some ⟨b,off,none⟩) l.length uE) l n wr∧Bx wr W5.heap.size x.vs∧rdEs ((shF kd).drop i) x l n = evA l k) (fun iv _=>fs.length - (intOf iv).toNat)
 case atStart=>exact ⟨0,k + 1,ev0 kd,rfl,Nat.zero_le _,U qK,U HS6,U vA,(U HYE).symm⟩
 case round =>
  obtain ⟨i,n,x,rfl,hi,hg,hs,hx,xO⟩:=hrel
  have HG:=H hg
  have HS:=H hs
  have HX:=H hx
  have uQ:=H xO
  clear hg hs hx xO
  by_cases xI:i < fs.length
  ·obtain ⟨c,hic⟩:∃ c,fs[i]? = some c:=⟨_,yI xI⟩
   obtain ⟨o,ja,oH⟩:=(ffs_get (U HF3)).2 i c hic
   have hfo5:=U HF5 o c oH
   obtain ⟨a7,c7,e7,_,uJ⟩:=U jy
   simp only [Value.slice.injEq] at e7
   obtain ⟨rfl,_,rfl⟩:=e7
   obtain ⟨g,rfl,hg0,ay,xW,_⟩:=uJ (by intro h; rw [h] at xI; simp at xI)
   have hR5:=(U HS5).lt
   have hRF:zb < W2.heap.size:=Nat.lt_trans hRw (U HZ2)
   have um:g ≠ zb:=by omega
   have q0:=(U HG).cell (xW i c hic 0 _ rfl) (by simp; omega)
   have q1:=(U HG).cell (xW i c hic 1 _ rfl) (by simp; omega)
   simp only [Nat.zero_add,Nat.add_zero] at q0 q1
   have hen:=fun args cl=>(field_enter _ o c W5 hfo5 args cl).1
   have hEV:=shF_evO kd o (yP ja)
   have uF:(i:Int) < fs.length:=by omega
   have hd:=xd (show i < (shF kd).length by rw [qd]; exact xI)
   rw [(yH.1 ja).2] at hd
   obtain ⟨n1,n2,V⟩:=c
   have qD:=gp wr (A #[.func (.func n1) #[] V,.func (.func n2) #[] V] 152)
   have hEw:W5.heap.size < wr.heap.size:=by
    obtain ⟨y,hy⟩:=Option.isSome_iff_exists.1 ((U HX).t 0 (by rw [Ev.len]; decide)).1
    exact yL wr _ hy
   have HCT:=H (readField_any wb w W2.heap.size zb W5.heap.size o ⟨n1,n2,V⟩ _ l n x.vs _ ((U HS).below qD (U HS).lt) (zf (U HX) qD hEw) hR5 (Ev.len x) hEV (eE (ff_gr hfo5 (U HG) hRF) qD yb) hRF)
   have HGA:=H (gr_bel (U HG) qD)
   have HD:=H hd
   have jr:=H hEV
   clear xW hic ja oH hfo5 hd qD hEV
   simp only at hen HCT
   go_wp2_with fail
   refine (U HCT).mono ?_
   rintro e w7 hFd
   cases hg:rdF o l n with
   | none =>
    obtain ⟨p,rfl⟩:=hFd.2.2 hg
    have HE:=H (((U uQ).symm.trans (by rw [U HD])).trans (rdEs_none (os:=(shF kd).drop (i + 1)) (e:=x) hg))
    have jK:=H (zZ (U uC) (gr2_on (U HGA) hFd.1 yb))
    clear hFd hg
    go_wp2_with fail
    exact ⟨rfl,evEnd_fail (U jK) (U HE) _⟩
   | some y =>
    obtain ⟨y,m⟩:=y
    obtain ⟨rfl,hs7,hx7⟩:=hFd.2.1 y m hg
    have HE:=H (((U uQ).symm.trans (by rw [U HD])).trans (rdEs_some (os:=(shF kd).drop (i + 1)) (e:=x) hg))
    have jK:=H (gr2_on (U HGA) hFd.1 yb)
    rw [evs_put x (U jr) (rdF_ty hg)] at hx7
    have HS7:=H hs7
    have HX7:=H hx7
    clear hFd hg hs7 hx7
    go_wp2_with fail
    go_roundw
    case rel=>exact ⟨i + 1,m,x.put o y,by go_num,by omega,U jK,U HS7,U HX7,(U HE).symm⟩
    case measure=>simp [intOf]; omega
  ·have vE:i = fs.length:=by omega
   have HE:Hid (evA l k = some (x,n)):=by
    show evA l k = _
    rw [← U uQ,List.drop_eq_nil_of_le (by omega)]
    rfl
   have aK:=U HX
   obtain ⟨xn,⟨ck,L,ct,V,cq,ci,O,cg⟩,id,xj,qty,xk,xi⟩:=x
   have d0:=R aK 0 rfl
   have d1:=R aK 1 rfl
   have d2:=R aK 2 rfl
   have d3:=R aK 3 rfl
   have d4:=R aK 4 rfl
   have d5:=R aK 5 rfl
   have d6:=R aK 6 rfl
   have d7:=R aK 7 rfl
   have d8:=R aK 8 rfl
   have d9:=R aK 9 rfl
   have kN:=R aK 10 rfl
   have ox:=R aK 11 rfl
   have oy:=R aK 12 rfl
   have oz:=R aK 13 rfl
   have jh:=H (bx (U HX5r) ((U HG).block w.heap.size (Nat.lt_trans hz3 (U HZ5)) (by simp; omega)))
   have HRN:=H (U HS).r
   have HGW:=H (zZ (U uC) (U HG))
   clear aK uQ
   have z0:=R (U jh) 0 rfl
   have f0:=zd (U jh) 0 (by decide)
   have z1:=R (U jh) 1 rfl
   have f1:=zd (U jh) 1 (by decide)
   have z2:=R (U jh) 2 rfl
   have f2:=zd (U jh) 2 (by decide)
   have z3:=R (U jh) 3 rfl
   have f3:=zd (U jh) 3 (by decide)
   have z4:=R (U jh) 4 rfl
   have f4:=zd (U jh) 4 (by decide)
   have z5:=R (U jh) 5 rfl
   have f5:=zd (U jh) 5 (by decide)
   have z6:=R (U jh) 6 rfl
   have f6:=zd (U jh) 6 (by decide)
   have z7:=R (U jh) 7 rfl
   have f7:=zd (U jh) 7 (by decide)
   have z8:=R (U jh) 8 rfl
   have f8:=zd (U jh) 8 (by decide)
   have z9:=R (U jh) 9 rfl
   have f9:=zd (U jh) 9 (by decide)
   have oq:=R (U jh) 10 rfl
   have f10:=zd (U jh) 10 (by decide)
   have oM:=R (U jh) 11 rfl
   have f11:=zd (U jh) 11 (by decide)
   have oN:=R (U jh) 12 rfl
   have f12:=zd (U jh) 12 (by decide)
   have oO:=R (U jh) 13 rfl
   have f13:=zd (U jh) 13 (by decide)
   clear uX HX5r jy HF5 c50 c51 vA HS6 qK oG HS5 HX
   go_wp2_with fail
   rw [set14]
   have xT:=H (zu (us:=(yw xn ck L ct V cq ci O cg id xj qty xk xi)) (U jh) rfl)
   have HQ:=H (evEnd_done (gr_setCells (yw xn ck L ct V cq ci O cg id xj qty xk xi) (U HGW) (Nat.le_refl w.heap.size)) (U HE) (rdr_setCells (yw xn ck L ct V cq ci O cg id xj qty xk xi) (U HRN) (by omega)))
   clear z0 f0 z1 f1 z2 f2 z3 f3 z4 f4 z5 f5 z6 f6 z7 f7 z8 f8 z9 f9 oq f10 oM f11 oN f12 oO f13 d0 d1 d2 d3 d4 d5 d6 d7 d8 d9 kN ox oy oz jh
   generalize (wr.setCells w.heap.size 0 (yw xn ck L ct V cq ci O cg id xj qty xk xi)) = WF at xT HQ ⊢
   obtain ⟨d0,d1,d2,d3,d4,d5,d6,d7,d8,d9,kN,ox,oy,oz⟩:=yz (U xT)
   refine bodyPost_ret (v:=evV ⟨xn,⟨ck,L,ct,V,cq,ci,O,cg⟩,id,xj,qty,xk,xi⟩) ?_ rfl (U HQ)
   simp [results,Tryz.f122,go_sem,d0,d1,d2,d3,d4,d5,d6,d7,d8,d9,kN,ox,oy,oz,evV]
abbrev BRow (W:World) (B:Nat) (v:Value) (l:List Int):Prop:=W.ownsRow B 5 1 v l.length (l.map (Value.int .u8))
theorem eQ {W W':World} {B:Nat} {v:Value} {l:List Int} (h:BRow W B v l) (Q:yp W W'):BRow W' B v l :=
 World.ownsRow.kept h (row:=none) ⟨Q.os,Q.tape,Q.output,Q.size,fun k hk _=>Q.block k hk⟩ (by cases v.ownBlock <;> simp)
theorem bRow_more {W:World} {B:Nat} {v:Value} {l m:List Int} (h:W.ownsRow B 5 1 v (l.length + m.length) (l.map (Value.int .u8) ++ m.map (Value.int .u8))):BRow W B v (l ++ m):=by
 show W.ownsRow _ _ _ _ (l ++ m).length _
 rw [yQ,List.map_append]; exact h
theorem bRow_own {W:World} {B:Nat} {v:Value} {l:List Int} (h:BRow W B v l) (xA:0 < l.length) (hl:l.length ≤ 1073741824):OwnT B W v l:=ownT_row xA hl h
theorem gi {P:Program} (w:World) {ops:Array Oper} {rest:List Oper} {o:Oper} {a:Act} {hb:Exit→Act→World→Prop} (hgd:o.guard = none) (s x:Operand) (t:TypeId)
  (Z:o.op = .call { callee:=.builtin .append,args:=#[s,x],argTypes:=#[t,t] })
  (B:Nat) (i:TypeInfo) (ht:P.underlying t = some (.slice 5)) (hi:P.info? 5 = some i) (hz:i.zero = some (.int .u8 0)) (jI:i.size = 1) (hby:i.bytes = 1)
  (v:Value) (l:List Int) (hs:a.eval s = v) (xS:BRow w B v l) (C:Nat) (vx:Value) (m:List Int) (hx:a.eval x = vx) (hr:OwnT C w vx m)
  (Q:l.length + m.length ≤ 1073741824) (hB:B ≤ w.heap.size)
  (h:∀ v' w',BRow w' B v' (l ++ m)→w.grownBy w' v.ownBlock→(v'.ownBlock = v.ownBlock ∨ v'.ownBlock = some w.heap.size)→wpList P ops hb rest (a.put o.dst v') w'):wpList P ops hb (o :: rest) a w:=by
 obtain ⟨g,cap,xF,tt,rfl,_,hg,_,_,_,hl,oj⟩:=hr
 refine wpList_append_own_at w hgd s x t Z B 5 i (.int .u8 0) 1 1 ht hi hz jI hby rfl (by decide) v l.length (l.map (Value.int .u8)) hs xS (D g 0) m.length cap (m.map (Value.int .u8)) hx (by simp) (fun j u X=>?_) (fun u hu=>?_)
  (by unfold maxLen; omega) (by omega) hB (fun v' w' N Y _ h4=>h v' w' (bRow_more N) Y h4)
 ·have hj':j < m.length:=by
   rcases Nat.lt_or_ge j m.length with h | h
   ·exact h
   ·rw [List.getElem?_eq_none (by simpa using h)] at X; cases X
  rw [List.getElem?_map,yI hj'] at X
  have e:((D g 0):Addr).add j = (D g j):=by unfold Addr.add; split <;> simp_all
  rw [e,cell_head hg oj hj']
  simpa [hj'] using X
 ·obtain ⟨y,_,rfl⟩:=List.mem_map.1 hu
  rfl
end Go.Proofs.YtnphbkgfjanmgaaGreatDoor
