/-
  What the two functions that write a number's bytes return, proved by walking them: a row of its own with the bytes of the number; nothing that was there is turned.
-/
import Derived.Test.YtnphbkgfjanmgaaGreatDoorDj22
import Derived.Maps.AppendAt
set_option linter.unusedVariables false
set_option maxHeartbeats 6400000
set_option maxRecDepth 100000
namespace Go.Proofs.YtnphbkgfjanmgaaGreatDoor
open Go.RowKit
theorem fold_any (n:Int) (w:World) (h0:-9223372036854775808 ≤ n) (N:n ≤ 9223372036854775807) :
  Calls Tryz.prog 203 #[I n] w fun e w'=>e = .returned (.int .u64 (zz n))∧w' = w:=by
 have HX:=H (fold_eq n h0 N)
 go_enter Tryz.func203,Tryz.ntmps203
 go_wp2
 go_ret
 exact ⟨zA (U HX),rfl⟩
theorem Tryz.arrayLen232:Tryz.prog.arrayLen 232 = 10:=by kernel_rfl
theorem slice_head10 (B k:Nat) (h:k ≤ 9) (W:World) :
  (Instr.sliceAt 232 (J B 0) none (some (I ((k:Int) + 1))) none).run Tryz.prog W = .ok (.slice (some (Q B 0)) (k + 1) 10) W:=by
 rw [run_sliceAt_array_h W 232 _ (by kernel_rfl) _ _ (by omega) (by rw [Tryz.arrayLen232]; omega),Tryz.arrayLen232]
 have e:((k:Int) + 1).toNat = k + 1:=by omega
 have hs:(sizeOf (Tryz.prog.elem 232)).run Tryz.prog W = .ok 1 W:=by kernel_rfl
 rw [hs,e]
 simp [slicedAt,Result.andThen,Addr.add]
theorem implPut_any (n:Int) (w:World) (h0:-9223372036854775808 ≤ n) (N:n ≤ 9223372036854775807) :
  Calls Tryz.prog 185 #[I n] w fun e w'=>∃ v,e = .returned v∧OwnT w.heap.size w' v (putU (zz n))∧yp w w':=by
 have HL:=H (eK _ (zz_lt n h0 N))
 have H6:=H (zz_lt n h0 N)
 have HF:=H (fun w=>fold_any n w h0 N)
 clear h0 N
 generalize hz:zz n = u0 at *
 have HZ:=H hz
 clear hz
 go_enter Tryz.func185,Tryz.ntmps185
 go_wp2_with (go_at_call 203; refine (U HF _).mono ?_; rintro e w' ⟨rfl,rfl⟩)
 go_loopw [4,5] (fun u c wr=>∃ (x:Nat) (done:List Int),u = .int .u64 x∧Lt64 x∧c = I done.length∧done ++ putU x = putU u0∧Arr 10 w.heap.size w wr done) (fun u _ _=>(intOf u).toNat)
 case atStart=>exact ⟨u0,[],rfl,U H6,rfl,rfl,arr_start _ _ _ rfl⟩
 case round =>
  obtain ⟨x,done,rfl,hx,rfl,hdone,jE⟩:=hrel
  have HD:=H hdone
  have aE:=putU_at (U HL) hdone
  have hdl':(done.length:Int) < 10:=by omega
  clear hdone
  obtain ⟨v0,hv0⟩:=jE.some (j:=done.length) (by omega)
  have hf0:=jE.free done.length
  by_cases xJ:x < 128
  ·have HE:=H (putU_end xJ (U HD))
   have HA:=H (arr_step (x:Int) jE (by omega))
   have hsl:=slice_head10 w.heap.size done.length (by omega)
   clear jE
   go_wp2_with fail
   go_ret
   have hE:=U HE
   rw [hE] at HA
   have xA:done.length + 1 = (putU u0).length:=by rw [← hE]; simp
   refine ⟨_,rfl,?_,(U HA).below⟩
   rw [xA]
   exact arr_own (U HA) rfl (by omega)
  ·have uF:(128:Int) ≤ x:=by omega
   have hand:=and127 x hx
   have HA:=H (arr_step ((x:Int) % 128 + 128) jE (by omega))
   clear jE
   go_wp2_with fail
   go_roundw
   case rel=>exact ⟨x / 128,done ++ [(x:Int) % 128 + 128],by go_num,by unfold Lt64 at *; omega,by simp,putU_step xJ (U HD),U HA⟩
   case measure=>simp [intOf]; omega
def bG (s:ByteArray):List Int:=putU (zz (cutB s).size) ++ bl (cutB s)
theorem textL_len (s:ByteArray):0 < (bG s).length∧(bG s).length ≤ 1073741824:=by
 have N:=putU_pos (zz (cutB s).size)
 have Y:=ej s
 have h3:=eK (zz (cutB s).size) (zz_lt _ (by omega) (by omega))
 rw [bG,yQ,bl_len]
 omega
theorem implText_any (s:ByteArray) (w:World) (hs:s.size ≤ maxLen) :
  Calls Tryz.prog 190 #[yl s] w fun e w'=>∃ v,e = .returned v∧OwnT w.heap.size w' v (bG s)∧yp w w':=by
 obtain ⟨i0,hi,uH,uI,uW⟩:=info_parts Tryz.infoByte
 have hc:=ej s
 have HT:=H (textL_len s).2
 have HTL:=H (show bG s = putU (zz (cutB s).size) ++ bl (cutB s) from rfl)
 have HC:=H (fun w=>implCut_any s w hs)
 generalize cutB s = c at *
 generalize bG s = l at *
 clear hs
 go_enter Tryz.func190,Tryz.ntmps190
 go_wp2_with fail
 refine (U HC _).mono ?_
 rintro e w0 ⟨rfl,rfl⟩
 go_wp2_with fail
 refine (implPut_any c.size _ (by omega) (by omega)).mono ?_
 rintro e w1 ⟨v1,rfl,Z,E⟩
 have HO:=H Z
 have HB:=H E
 clear Z E
 go_wp2_with (at_builtin; go_must (refine wpList_append_text _ rfl _ _ 115 9 rfl w0.heap.size 5 i0 Tryz.underlying115 Tryz.underlying9 hi uH uI uW _ _ rfl (U HO) c rfl (by have:=U HT; rw [U HTL,yQ,bl_len] at this; exact this) (U HB).size ?_); intro v2 w2 kE uZ)
 go_ret
 refine ⟨_,rfl,by rw [U HTL]; exact kE,(U HB).grown uZ (U HB).size (OwnT.ge (U HO))⟩
def fl8 (u:Nat):List Int:=[(u:Int) / 72057594037927936 % 256,(u:Int) / 281474976710656 % 256,(u:Int) / 1099511627776 % 256,(u:Int) / 4294967296 % 256,
 (u:Int) / 16777216 % 256,(u:Int) / 65536 % 256,(u:Int) / 256 % 256,(u:Int) % 256]
theorem fl8_len (u:Nat):(fl8 u).length = 8:=rfl
theorem Tryz.arrayLen236:Tryz.prog.arrayLen 236 = 8:=by kernel_rfl
theorem slice_all8 (B:Nat) (W:World) :
  (Instr.sliceAt 236 (J B 0) none none none).run Tryz.prog W = .ok (.slice (some (Q B 0)) 8 8) W:=by
 rw [run_sliceAt_array_all W 236 _ (by kernel_rfl),Tryz.arrayLen236]
 have hs:(sizeOf (Tryz.prog.elem 236)).run Tryz.prog W = .ok 1 W:=by kernel_rfl
 rw [hs]
 simp [slicedAt,Result.andThen,Addr.add]
theorem implFloat_bits (x u:Nat) (w:World) (hu:fbit x = u) :
  Calls Tryz.prog 188 #[yk x] w fun e w'=>∃ v,e = .returned v∧OwnT w.heap.size w' v (fl8 u)∧yp w w':=by
 have hsl:=slice_all8 w.heap.size
 have HF:=H (fun w=>hu ▸ eS x w)
 clear hu
 go_enter Tryz.func188,Tryz.ntmps188
 go_wp2_with (go_at_call 123; refine (U HF _).mono ?_; rintro e w' ⟨rfl,rfl⟩)
 refine wp_loop_rounds 9 ?_
 repeat (rw [rounds_succ]; go_wp2_with fail)
 go_ret
 exact ⟨_,rfl,⟨_,8,_,_,rfl,Nat.le_refl _,heap_alloc_new _ _,by rw [fl8_len]; decide,by simp,by unfold maxLen; omega,by rw [fl8_len]; decide,by simp [fl8]⟩,fw _ _⟩
theorem implFloat_any (x:Nat) (w:World) :
  Calls Tryz.prog 188 #[yk x] w fun e w'=>∃ v,e = .returned v∧OwnT w.heap.size w' v (fl8 (fbit x))∧yp w w' :=
 implFloat_bits x _ w rfl
def Ev.num (e:Ev):Nat→Int
 | 1=>e.cmd.k
 | 2=>e.cmd.s
 | 3=>e.cmd.t
 | 4=>e.cmd.l
 | 5=>e.cmd.q
 | 6=>e.cmd.i
 | 9=>e.id
 | 10=>e.other
 | 11=>e.qty
 | 12=>e.price
 | 13=>e.reason
 | _=>0
theorem ev_num (e:Ev) {o:Nat} (h:plcO o = true):e.vs[o]? = some (I (e.num o)):=by
 rcases (show o = 1 ∨ o = 2 ∨ o = 3 ∨ o = 4 ∨ o = 5 ∨ o = 6 ∨ o = 9 ∨ o = 10 ∨ o = 11 ∨ o = 12 ∨ o = 13 by simp [plcO] at h; omega) with rfl | rfl | rfl | rfl | rfl | rfl | rfl | rfl | rfl | rfl | rfl
 all_goals rfl
structure Ev.fit (e:Ev):Prop where
 n:∀ o,-9223372036854775808 ≤ e.num o∧e.num o ≤ 9223372036854775807
 k:-9223372036854775808 ≤ e.kind∧e.kind ≤ 9223372036854775807
 p:e.cmd.p < 18446744073709551616
 g:e.cmd.g.size ≤ maxLen
def wrF (e:Ev) (o:Nat):List Int:=if o = 7 then fl8 (fbit e.cmd.p) else if o = 8 then bG e.cmd.g else putU (zz (e.num o))
theorem ownT_base {B C:Nat} {w:World} {v:Value} {l:List Int} (h:OwnT C w v l) (hB:B ≤ C):OwnT B w v l:=by
 obtain ⟨g,cap,xF,t,N,Y,h3⟩:=h
 exact ⟨g,cap,xF,t,N,yO hB Y,h3⟩
def WrEnd (w:World) (l:List Int) (r:Ending) (w':World):Prop:=∃ v,r = .returned v∧OwnT w.heap.size w' v l∧yp w w'
theorem writeNum_any (e:Ev) (b o:Nat) (w:World) (he:e.fit) (Z:plcO o = true) (hc:w.cell? (Q b 0) = some (.func (.func (plcV o)) #[] #[])) :
  Calls Tryz.prog 184 #[evV e,J b 0] w fun r w'=>WrEnd w (putU (zz (e.num o))) r w':=by
 have xz:=fw w (Obj.cells e.vs.toArray 52)
 have hx:=K (zq w e.vs 52) o (ev_num e Z)
 have HP:=H (fun W=>plc_any o w.heap.size W Z)
 have hpe:=plc_enter o Z
 have xJ:=yL w _ hc
 have hc':=(xz.cell (p:=(Q b 0)) xJ).trans hc
 have HI:=H (fun W=>implPut_any (e.num o) W (he.n o).1 (he.n o).2)
 have HB:=H xz
 have HZ:Hid ((w.alloc (Obj.cells e.vs.toArray 52)).heap.size = w.heap.size + 1):=by show _ = _; simp
 clear xz hc he
 generalize plcV o = f at *
 generalize e.num o = z at *
 unfold evV
 unfold Ev.vs at hx hc' HB HZ
 obtain ⟨xn,⟨ck,A,ct,F,cq,ci,O,cg⟩,id,xj,qty,xk,xi⟩:=e
 simp only at hx hc' HB HZ ⊢
 go_enter Tryz.func184,Tryz.ntmps184
 go_wp2_with fail
 refine (U HP _).mono ?_
 rintro r w1 ⟨rfl,qx⟩
 rw [qx]
 clear qx
 go_wp2_with fail
 refine (U HI _).mono ?_
 rintro r w2 ⟨v,rfl,kE,xL⟩
 have HE:Hid (WrEnd w (putU (zz z)) (.returned v) w2):=⟨v,rfl,ownT_base kE (by rw [U HZ]; omega),(U HB).trans (xL.mono (U HB).size)⟩
 clear kE xL
 go_wp2_with fail
 go_ret
 exact U HE
theorem writePrice_any (e:Ev) (w:World) (he:e.fit):Calls Tryz.prog 150 #[evV e] w fun r w'=>WrEnd w (fl8 (fbit e.cmd.p)) r w':=by
 have hsf:=sfl
 have xz:=fw w (Obj.cells e.vs.toArray 52)
 have hx:=K (zq w e.vs 52) 7 rfl
 have HI:=H (fun W=>implFloat_any e.cmd.p W)
 have HB:=H xz
 have HZ:Hid ((w.alloc (Obj.cells e.vs.toArray 52)).heap.size = w.heap.size + 1):=by show _ = _; simp
 clear xz he
 unfold evV
 unfold Ev.vs at hx HB HZ
 obtain ⟨xn,⟨ck,A,ct,F,cq,ci,O,cg⟩,id,xj,qty,xk,xi⟩:=e
 simp only at hx HB HZ HI ⊢
 go_enter Tryz.func150,Tryz.ntmps150
 go_wp2_with fail
 refine (U HI _).mono ?_
 rintro r w2 ⟨v,rfl,kE,xL⟩
 have HE:Hid (WrEnd w (fl8 (fbit O)) (.returned v) w2):=⟨v,rfl,ownT_base kE (by rw [U HZ]; omega),(U HB).trans (xL.mono (U HB).size)⟩
 clear kE xL
 go_wp2_with fail
 go_ret
 exact U HE
theorem writeTag_any (e:Ev) (w:World) (he:e.fit):Calls Tryz.prog 152 #[evV e] w fun r w'=>WrEnd w (bG e.cmd.g) r w':=by
 have hq:=he.g
 have xz:=fw w (Obj.cells e.vs.toArray 52)
 have hx:=K (zq w e.vs 52) 8 rfl
 have HI:=H (fun W=>implText_any e.cmd.g W he.g)
 have HB:=H xz
 have HZ:Hid ((w.alloc (Obj.cells e.vs.toArray 52)).heap.size = w.heap.size + 1):=by show _ = _; simp
 clear xz he
 unfold evV
 unfold Ev.vs at hx HB HZ
 obtain ⟨xn,⟨ck,A,ct,F,cq,ci,O,cg⟩,id,xj,qty,xk,xi⟩:=e
 simp only at hx HB HZ HI ⊢
 go_enter Tryz.func152,Tryz.ntmps152
 go_wp2_with fail
 refine (U HI _).mono ?_
 rintro r w2 ⟨v,rfl,kE,xL⟩
 have HE:Hid (WrEnd w (bG cg) (.returned v) w2):=⟨v,rfl,ownT_base kE (by rw [U HZ]; omega),(U HB).trans (xL.mono (U HB).size)⟩
 clear kE xL
 go_wp2_with fail
 go_ret
 exact U HE
theorem writeField_any (cl o:Nat) (c:Fc) (e:Ev) (W:World) (he:e.fit) (Z:EvO o) (hf:FF W cl o c):Calls Tryz.prog c.n1 (#[evV e] ++ c.l) W fun r w'=>WrEnd W (wrF e o) r w':=by
 unfold FF at hf
 unfold wrF
 unfold EvO at Z
 rcases Z with rfl | rfl | Z
 ·rw [if_pos rfl] at hf
  subst hf
  exact writePrice_any e W he
 ·rw [if_neg (by decide),if_pos rfl] at hf
  subst hf
  exact writeTag_any e W he
 ·have h7:o ≠ 7:=by intro e; subst e; simp [plcO] at Z
  have h8:o ≠ 8:=by intro e; subst e; simp [plcO] at Z
  rw [if_neg h7,if_neg h8] at hf ⊢
  obtain ⟨b,rfl,N,Y,h3⟩:=hf
  exact writeNum_any e b o W he Z h3
theorem isKind_any (c:Int) (a:Option Addr) (n cap:Nat) (w:World):Calls Tryz.prog 69 #[.agg #[I c,.slice a n cap]] w fun e w'=>e = .returned (.bool (decide (0 < n)))∧yp w w':=by
 go_enter Tryz.func69,Tryz.ntmps69
 go_wp2_with fail
 go_ret
 exact ⟨rfl,by go_grown⟩
theorem bel_gr {w W:World} (h:yp w W) (hR:Nat):w.grownBy W (some hR):=⟨h.os,h.tape,h.output,h.size,fun i hi _=>h.block i hi⟩
theorem gr_bel {w W hj:World} {hR:Nat} (h:w.grownBy W (some hR)) (Y:yp W hj):w.grownBy hj (some hR):=bm h (bel_gr Y hR)
theorem ff_gr {cl o hR:Nat} {W W':World} {c:Fc} (h:FF W cl o c) (E:W.grownBy W' (some hR)) (R:hR < cl):FF W' cl o c:=by
 unfold FF at h ⊢
 split
 ·rwa [if_pos ‹_›] at h
 ·rw [if_neg ‹_›] at h
  split
  ·rwa [if_pos ‹_›] at h
  ·rw [if_neg ‹_›] at h
   obtain ⟨b,N,Y,h3,h4⟩:=h
   exact ⟨b,N,Y,yK h3 E.size,E.cell h4 (by simp; omega)⟩
theorem event_any (wb:World) (hR:Nat) (v:Value) (l:List Int) (k:Nat) (w:World) (hs:RSr wb hR v l k w) :
  Calls Tryz.prog 122 #[.pointer (some ⟨hR,0,none⟩)] w fun e w'=>EvEnd hR v w (evA l k) e w':=by
 have hsf:=sfl
 have hsfn:=sfn
 have hRw:=hs.lt
 have xA:(l.length:Int) ≤ 65536:=by have:=hs.ll; omega
 have oW:=hs.kk
 have ue:Hid (yp w (w.alloc (L (yw 0 0 0 0 0 0 0 0 ⟨#[]⟩ 0 0 0 0 0).toArray 52))):=fw _ _
 have uA:=H (zq w (yw 0 0 0 0 0 0 0 0 ⟨#[]⟩ 0 0 0 0 0) 52)
 have pJ:=H (hs.below (U ue) hRw)
 have qL:Hid ((w.alloc (L (yw 0 0 0 0 0 0 0 0 ⟨#[]⟩ 0 0 0 0 0).toArray 52)).heap.size = w.heap.size + 1):=by show _ = _; simp
 have HS:=H hs
 clear hs
 rw [show (yw 0 0 0 0 0 0 0 0 ⟨#[]⟩ 0 0 0 0 0).toArray = (yw 0 0 0 0 0 0 0 0 ⟨#[]⟩ 0 0 0 0 0).toArray from rfl] at uA
 obtain ⟨a,cap,hv⟩:=rd_len (U HS).rd
 go_enter Tryz.func122,Tryz.ntmps122
 go_wp2_with fail
 generalize (w.alloc (L (yw 0 0 0 0 0 0 0 0 ⟨#[]⟩ 0 0 0 0 0).toArray 52)) = W1 at ue uA pJ qL ⊢
 by_cases vk:l.length ≤ k
 ·have HE:=H (evA_end vk)
  have HR:=H (hv ▸ (U pJ).r)
  refine (take_end hR 1 k a l.length cap _ (U HR) (by omega) (by omega) (by omega) (by omega) (by omega)).mono ?_
  rintro e w1 ⟨rfl,q,rfl⟩
  go_wp2_with fail
  exact ⟨rfl,evEnd_fail (bm (bel_gr (U ue) hR) (bS _ _ _)) (U HE) _⟩
 clear hv
 obtain ⟨b,off,uB,rfl,kz,uq,xt⟩:∃ b off uB,v = .slice (some ⟨b,off,none⟩) l.length uB∧b < wb.heap.size∧l.length ≤ uB∧W1.cell? ⟨b,off + k,none⟩ = some (.int .u8 (l.getD k 0)):=by
  obtain ⟨a',c',hv',_,hc⟩:=(U pJ).rd
  obtain ⟨b,off,rfl,xt⟩:=hc (by intro h; rw [h] at vk; simp at vk)
  have uk:=yL wb _ (xt 0 (by omega))
  exact ⟨b,off,c',hv',uk,(U pJ).cap _ _ _ hv',((U pJ).bel.cell (p:=⟨b,off + k,none⟩) uk).trans (xt k (by omega))⟩
 have HR:=H (U pJ).r
 refine (take_ok hR 1 k b off l.length uB _ (U HR) (by omega) (by omega) uq (by omega)).mono ?_
 rintro e w2 ⟨rfl,q,rfl⟩
 have hgs:=bm (gr_set W1 ⟨hR,1,none⟩ (I ((k + 1:Nat):Int))) (bS _ q _)
 have ug:=H (bm (bel_gr (U ue) hR) hgs)
 have qf:=H ((U pJ).go hgs (((U pJ).r.step ((k + 1:Nat):Int)).drewN q) (by omega))
 have xI:=H (aO (U uA) (hgs.block w.heap.size (by rw [U qL]; omega) (by simp; omega)))
 have HZ2:Hid (w.heap.size < ((W1.setCell ⟨hR,1,none⟩ (I ((k + 1:Nat):Int))).drewN q).heap.size):=yK (by rw [U qL]; omega) hgs.size
 have oo:=hgs.cell xt (by have:=(U pJ).le; simp; omega)
 have hbt:=bts_get (U HS).bb k
 have HSh:=H (fun (h:shF (l.getD k 0) = [])=>evA_no (by omega) h)
 have HYe:=H (fun (h:shF (l.getD k 0) ≠ [])=>evA_yes (by omega) h)
 clear hgs pJ uA ue HR xt qL HS
 generalize (W1.setCell ⟨hR,1,none⟩ (I ((k + 1:Nat):Int))).drewN q = W2 at ug qf xI HZ2 oo ⊢
 generalize l.getD k 0 = kd at *
 obtain ⟨pw,hk1⟩:=hbt
 go_wp2_with fail
 refine (shape_any kd W2).mono ?_
 rintro e W3 ⟨fv,fs,rfl,hof,hff,xQ⟩
 have uW:=U HZ2
 have vV:=(ffs_get hff).1
 have pF:=H hof
 have HF3:=H hff
 have hS3:=(U qf).below xQ (U qf).lt
 have ko:=zf (U xI) xQ uW
 have hG3:=gr_bel (U ug) xQ
 have hz3:=yK uW xQ.size
 obtain ⟨fa,ky,rfl,hfl,uG⟩:=hof
 obtain ⟨xy,xG⟩:=fE W3 [I (shC kd),.slice fa fs.length ky] 110
 have pl:=H (hS3.below xy hS3.lt)
 have HX4r:=H (zf ko xy hz3)
 have ut:=H (gr_bel hG3 xy)
 have vr:=H (ownR_below (U pF) xy yb)
 have HF4:=H (fun (o:Nat) (c:Fc) (h:FF W3 W2.heap.size o c)=>dQ h xy yb)
 have HZ4:Hid (W3.heap.size < (W3.alloc (L #[I (shC kd),.slice fa fs.length ky] 110)).heap.size):=by show _ < _; simp
 rw [show [I (shC kd),.slice fa fs.length ky].toArray = #[I (shC kd),.slice fa fs.length ky] from rfl] at xG
 clear hff xQ hS3 ko hG3 uG xy qf xI ug pF
 go_wp2_with fail
 generalize (W3.alloc (L #[I (shC kd),.slice fa fs.length ky] 110)) = W4 at xG pl HX4r ut vr HF4 HZ4 ⊢
 refine (isKind_any (shC kd) fa fs.length ky W4).mono ?_
 rintro e W5 ⟨rfl,uh⟩
 have hz4:=U HZ4
 have HS5:=H ((U pl).below uh (U pl).lt)
 have HX5r:=H (zf (U HX4r) uh (by omega))
 have uU:=H (zf (U xG) uh hz4)
 have uC:=H (gr_bel (U ut) uh)
 have jl:=H (ownR_below (U vr) uh yb)
 have HF5:=H (fun (o:Nat) (c:Fc) (h:FF W3 W2.heap.size o c)=>dQ (U HF4 o c h) uh yb)
 have HZ5:=H (yK hz4 uh.size)
 clear uh pl HX4r xG ut vr HF4 HZ4 hz4
 by_cases xD:fs.length = 0
 ·have HE:=H (U HSh (List.length_eq_zero_iff.1 (vV.trans xD)))
  have HR:=H (U HS5).r
  rw [xD]
  go_wp2_with fail
  refine (cH hR 3 _ _ _ (U HR)).mono ?_
  rintro e w6 ⟨rfl,rfl⟩
  go_wp2_with fail
  exact ⟨rfl,evEnd_fail (U uC) (U HE) _⟩
 have qJ:decide (0 < fs.length) = true:=by simpa using Nat.pos_of_ne_zero xD
 have c50:=K (U uU) 0 rfl
 rw [qJ]
 have HYE:=H (U HYe (by intro h; rw [h] at vV; exact xD vV.symm))
 have om:=fw W5 (L (yw kd (shC kd) 0 0 0 0 0 0 ⟨#[]⟩ 0 0 0 0 0).toArray 52)
 have vw:Hid (Bx (W5.alloc (L (yw kd (shC kd) 0 0 0 0 0 0 ⟨#[]⟩ 0 0 0 0 0).toArray 52)) W5.heap.size (ev0 kd).vs):=zq W5 (ev0 kd).vs 52
 have HS6:=H ((U HS5).below om (U HS5).lt)
 have qD:=H (bel_gr om hR)
 have c51:=K (zf (U uU) om (U HZ5)) 1 rfl
 clear om qJ
 go_wp2_with fail
 generalize (W5.alloc (L (yw kd (shC kd) 0 0 0 0 0 0 ⟨#[]⟩ 0 0 0 0 0).toArray 52)) = W6 at vw HS6 qD c51 ⊢
 go_loopw [28] (fun iv wr=>∃ (i n:Nat) (x:Ev),iv = I i∧i ≤ fs.length∧W5.grownBy wr (some hR)∧RSr wb hR (.slice (some ⟨b,off,none⟩) l.length uB) l n wr∧Bx wr W5.heap.size x.vs∧rdEs ((shF kd).drop i) x l n = evA l k) (fun iv _=>fs.length - (intOf iv).toNat)
 case atStart=>exact ⟨0,k + 1,ev0 kd,rfl,Nat.zero_le _,U qD,U HS6,U vw,(U HYE).symm⟩
 case round =>
  obtain ⟨i,n,x,rfl,hi,hg,hs,hx,xO⟩:=hrel
  have HG:=H hg
  have HS:=H hs
  have HX:=H hx
  have uN:=H xO
  clear hg hs hx xO
  by_cases xJ:i < fs.length
  ·obtain ⟨c,hic⟩:∃ c,fs[i]? = some c:=⟨_,yI xJ⟩
   obtain ⟨o,qQ,oq⟩:=(ffs_get (U HF3)).2 i c hic
   have hfo5:=U HF5 o c oq
   obtain ⟨a7,c7,e7,_,uG⟩:=U jl
   simp only [Value.slice.injEq] at e7
   obtain ⟨rfl,_,rfl⟩:=e7
   obtain ⟨g,rfl,hg0,pS,xV,_⟩:=uG (by intro h; rw [h] at xJ; simp at xJ)
   have hR5:=(U HS5).lt
   have hRF:hR < W2.heap.size:=Nat.lt_trans hRw (U HZ2)
   have vG:g ≠ hR:=by omega
   have q0:=(U HG).cell (xV i c hic 0 _ rfl) (by simp; omega)
   have q1:=(U HG).cell (xV i c hic 1 _ rfl) (by simp; omega)
   simp only [Nat.zero_add,Nat.add_zero] at q0 q1
   have hen:=fun args hj=>(field_enter _ o c W5 hfo5 args hj).1
   have hEV:=shF_evO kd o (yP qQ)
   have uF:(i:Int) < fs.length:=by omega
   have hd:=xd (show i < (shF kd).length by rw [vV]; exact xJ)
   rw [(yH.1 qQ).2] at hd
   obtain ⟨n1,n2,F⟩:=c
   have qw:=fw wr (L #[.func (.func n1) #[] F,.func (.func n2) #[] F] 152)
   have hEw:W5.heap.size < wr.heap.size:=by
    obtain ⟨y,hy⟩:=Option.isSome_iff_exists.1 ((U HX).t 0 (by rw [Ev.len]; decide)).1
    exact yL wr _ hy
   have HCT:=H (readField_any wb w W2.heap.size hR W5.heap.size o ⟨n1,n2,F⟩ _ l n x.vs _ ((U HS).below qw (U HS).lt) (zf (U HX) qw hEw) hR5 (Ev.len x) hEV (dQ (ff_gr hfo5 (U HG) hRF) qw yb) hRF)
   have HGA:=H (gr_bel (U HG) qw)
   have HD:=H hd
   have jj:=H hEV
   clear xV hic qQ oq hfo5 hd qw hEV
   simp only at hen HCT
   go_wp2_with fail
   refine (U HCT).mono ?_
   rintro e w7 hFd
   cases hg:rdF o l n with
   | none =>
    obtain ⟨p,rfl⟩:=hFd.2.2 hg
    have HE:=H (((U uN).symm.trans (by rw [U HD])).trans (rdEs_none (os:=(shF kd).drop (i + 1)) (e:=x) hg))
    have jz:=H (bm (U uC) (gr2_on (U HGA) hFd.1 yb))
    clear hFd hg
    go_wp2_with fail
    exact ⟨rfl,evEnd_fail (U jz) (U HE) _⟩
   | some y =>
    obtain ⟨y,m⟩:=y
    obtain ⟨rfl,hs7,hx7⟩:=hFd.2.1 y m hg
    have HE:=H (((U uN).symm.trans (by rw [U HD])).trans (rdEs_some (os:=(shF kd).drop (i + 1)) (e:=x) hg))
    have jz:=H (gr2_on (U HGA) hFd.1 yb)
    rw [evs_put x (U jj) (rdF_ty hg)] at hx7
    have HS7:=H hs7
    have HX7:=H hx7
    clear hFd hg hs7 hx7
    go_wp2_with fail
    go_roundw
    case rel=>exact ⟨i + 1,m,x.put o y,by go_num,by omega,U jz,U HS7,U HX7,(U HE).symm⟩
    case measure=>simp [intOf]; omega
  ·have qa:i = fs.length:=by omega
   have HE:Hid (evA l k = some (x,n)):=by
    show evA l k = _
    rw [← U uN,List.drop_eq_nil_of_le (by omega)]
    rfl
   have ai:=U HX
   obtain ⟨xn,⟨ck,A,ct,F,cq,ci,O,cg⟩,id,xj,qty,xk,xi⟩:=x
   have d0:=K ai 0 rfl
   have d1:=K ai 1 rfl
   have d2:=K ai 2 rfl
   have d3:=K ai 3 rfl
   have d4:=K ai 4 rfl
   have d5:=K ai 5 rfl
   have d6:=K ai 6 rfl
   have d7:=K ai 7 rfl
   have d8:=K ai 8 rfl
   have d9:=K ai 9 rfl
   have ku:=K ai 10 rfl
   have kY:=K ai 11 rfl
   have kZ:=K ai 12 rfl
   have oa:=K ai 13 rfl
   have qX:=H (aO (U HX5r) ((U HG).block w.heap.size (Nat.lt_trans hz3 (U HZ5)) (by simp; omega)))
   have HRN:=H (U HS).r
   have HGW:=H (bm (U uC) (U HG))
   clear ai uN
   have z0:=K (U qX) 0 rfl
   have f0:=zd (U qX) 0 (by decide)
   have z1:=K (U qX) 1 rfl
   have f1:=zd (U qX) 1 (by decide)
   have z2:=K (U qX) 2 rfl
   have f2:=zd (U qX) 2 (by decide)
   have z3:=K (U qX) 3 rfl
   have f3:=zd (U qX) 3 (by decide)
   have z4:=K (U qX) 4 rfl
   have f4:=zd (U qX) 4 (by decide)
   have z5:=K (U qX) 5 rfl
   have f5:=zd (U qX) 5 (by decide)
   have z6:=K (U qX) 6 rfl
   have f6:=zd (U qX) 6 (by decide)
   have z7:=K (U qX) 7 rfl
   have f7:=zd (U qX) 7 (by decide)
   have z8:=K (U qX) 8 rfl
   have f8:=zd (U qX) 8 (by decide)
   have z9:=K (U qX) 9 rfl
   have f9:=zd (U qX) 9 (by decide)
   have kU:=K (U qX) 10 rfl
   have f10:=zd (U qX) 10 (by decide)
   have ow:=K (U qX) 11 rfl
   have f11:=zd (U qX) 11 (by decide)
   have ox:=K (U qX) 12 rfl
   have f12:=zd (U qX) 12 (by decide)
   have oy:=K (U qX) 13 rfl
   have f13:=zd (U qX) 13 (by decide)
   clear uU HX5r jl HF5 c50 c51 vw HS6 qD oo HS5 HX
   go_wp2_with fail
   rw [set14]
   have xT:=H (zw (us:=(yw xn ck A ct F cq ci O cg id xj qty xk xi)) (U qX) rfl)
   have HQ:=H (evEnd_done (gr_setCells (yw xn ck A ct F cq ci O cg id xj qty xk xi) (U HGW) (Nat.le_refl w.heap.size)) (U HE) (rdr_setCells (yw xn ck A ct F cq ci O cg id xj qty xk xi) (U HRN) (by omega)))
   clear z0 f0 z1 f1 z2 f2 z3 f3 z4 f4 z5 f5 z6 f6 z7 f7 z8 f8 z9 f9 kU f10 ow f11 ox f12 oy f13 d0 d1 d2 d3 d4 d5 d6 d7 d8 d9 ku kY kZ oa qX
   generalize (wr.setCells w.heap.size 0 (yw xn ck A ct F cq ci O cg id xj qty xk xi)) = WF at xT HQ ⊢
   obtain ⟨d0,d1,d2,d3,d4,d5,d6,d7,d8,d9,ku,kY,kZ,oa⟩:=yz (U xT)
   refine bodyPost_ret (v:=evV ⟨xn,⟨ck,A,ct,F,cq,ci,O,cg⟩,id,xj,qty,xk,xi⟩) ?_ rfl (U HQ)
   simp [results,Tryz.f122,go_sem,d0,d1,d2,d3,d4,d5,d6,d7,d8,d9,ku,kY,kZ,oa,evV]
abbrev BRow (W:World) (B:Nat) (v:Value) (l:List Int):Prop:=W.ownsRow B 5 1 v l.length (l.map (Value.int .u8))
theorem dZ {W W':World} {B:Nat} {v:Value} {l:List Int} (h:BRow W B v l) (E:yp W W'):BRow W' B v l :=
 World.ownsRow.kept h (row:=none) ⟨E.os,E.tape,E.output,E.size,fun k hk _=>E.block k hk⟩ (by cases v.ownBlock <;> simp)
theorem bRow_more {W:World} {B:Nat} {v:Value} {l m:List Int} (h:W.ownsRow B 5 1 v (l.length + m.length) (l.map (Value.int .u8) ++ m.map (Value.int .u8))):BRow W B v (l ++ m):=by
 show W.ownsRow _ _ _ _ (l ++ m).length _
 rw [yQ,List.map_append]; exact h
theorem bRow_own {W:World} {B:Nat} {v:Value} {l:List Int} (h:BRow W B v l) (xD:0 < l.length) (hl:l.length ≤ 1073741824):OwnT B W v l:=ownT_row xD hl h
theorem fo {P:Program} (w:World) {ops:Array Oper} {rest:List Oper} {o:Oper} {a:Act} {ya:Exit→Act→World→Prop} (hgd:o.guard = none) (s x:Operand) (t:TypeId)
  (Z:o.op = .call { callee:=.builtin .append,args:=#[s,x],argTypes:=#[t,t] })
  (B:Nat) (i:TypeInfo) (ht:P.underlying t = some (.slice 5)) (hi:P.info? 5 = some i) (hz:i.zero = some (.int .u8 0)) (jw:i.size = 1) (hby:i.bytes = 1)
  (v:Value) (l:List Int) (hs:a.eval s = v) (xS:BRow w B v l) (C:Nat) (vx:Value) (m:List Int) (hx:a.eval x = vx) (hr:OwnT C w vx m)
  (E:l.length + m.length ≤ 1073741824) (hB:B ≤ w.heap.size)
  (h:∀ v' w',BRow w' B v' (l ++ m)→w.grownBy w' v.ownBlock→(v'.ownBlock = v.ownBlock ∨ v'.ownBlock = some w.heap.size)→wpList P ops ya rest (a.put o.dst v') w'):wpList P ops ya (o :: rest) a w:=by
 obtain ⟨g,cap,xF,tt,rfl,_,hg,_,_,_,hl,kR⟩:=hr
 refine wpList_append_own_at w hgd s x t Z B 5 i (.int .u8 0) 1 1 ht hi hz jw hby rfl (by decide) v l.length (l.map (Value.int .u8)) hs xS (Q g 0) m.length cap (m.map (Value.int .u8)) hx (by simp) (fun j u V=>?_) (fun u hu=>?_)
  (by unfold maxLen; omega) (by omega) hB (fun v' w' N Y _ h4=>h v' w' (bRow_more N) Y h4)
 ·have hj':j < m.length:=by
   rcases Nat.lt_or_ge j m.length with h | h
   ·exact h
   ·rw [List.getElem?_eq_none (by simpa using h)] at V; cases V
  rw [List.getElem?_map,yI hj'] at V
  have e:((Q g 0):Addr).add j = (Q g j):=by unfold Addr.add; split <;> simp_all
  rw [e,cell_head hg kR hj']
  simpa [hj'] using V
 ·obtain ⟨y,_,rfl⟩:=List.mem_map.1 hu
  rfl
end Go.Proofs.YtnphbkgfjanmgaaGreatDoor
