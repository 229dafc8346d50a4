/-
  What the two functions that write a number's bytes return, proved by walking them: a row of its own with the bytes of the number; nothing that was there is turned.
-/
import Derived.Test.YtnphbkgfjanmgaaGreatDoorBj22
import Derived.Maps.AppendAt
set_option linter.unusedVariables false
set_option maxHeartbeats 6400000
set_option maxRecDepth 100000
namespace Go.Proofs.YtnphbkgfjanmgaaGreatDoor
open Go.RowKit
theorem fold_any (n:Int) (w:World) (h0:-9223372036854775808 ≤ n) (Q:n ≤ 9223372036854775807) :
  Calls Tryz.prog 203 #[I n] w fun e w'=>e = .returned (.int .u64 (zz n))∧w' = w:=by
 have HX:=M (fold_eq n h0 Q)
 go_enter Tryz.func203,Tryz.ntmps203
 go_wp2
 go_ret
 exact ⟨zy (H HX),rfl⟩
theorem Tryz.arrayLen232:Tryz.prog.arrayLen 232 = 10:=by kernel_rfl
theorem slice_head10 (B k:Nat) (h:k ≤ 9) (W:World) :
  (Instr.sliceAt 232 (J B 0) none (some (I ((k:Int) + 1))) none).run Tryz.prog W = .ok (.slice (some (U B 0)) (k + 1) 10) W:=by
 rw [run_sliceAt_array_h W 232 _ (by kernel_rfl) _ _ (by omega) (by rw [Tryz.arrayLen232]; omega),Tryz.arrayLen232]
 have e:((k:Int) + 1).toNat = k + 1:=by omega
 have hs:(sizeOf (Tryz.prog.elem 232)).run Tryz.prog W = .ok 1 W:=by kernel_rfl
 rw [hs,e]
 simp [slicedAt,Result.andThen,Addr.add]
theorem implPut_any (n:Int) (w:World) (h0:-9223372036854775808 ≤ n) (Q:n ≤ 9223372036854775807) :
  Calls Tryz.prog 185 #[I n] w fun e w'=>∃ v,e = .returned v∧OwnT w.heap.size w' v (putU (zz n))∧yn w w':=by
 have HL:=M (eQ _ (zz_lt n h0 Q))
 have H6:=M (zz_lt n h0 Q)
 have HF:=M (fun w=>fold_any n w h0 Q)
 clear h0 Q
 generalize hz:zz n = u0 at *
 have HZ:=M hz
 clear hz
 go_enter Tryz.func185,Tryz.ntmps185
 go_wp2_with (go_at_call 203; refine (H HF _).mono ?_; rintro e w' ⟨rfl,rfl⟩)
 go_loopw [4,5] (fun u c wr=>∃ (x:Nat) (done:List Int),u = .int .u64 x∧Lt64 x∧c = I done.length∧done ++ putU x = putU u0∧Arr 10 w.heap.size w wr done) (fun u _ _=>(intOf u).toNat)
 case atStart=>exact ⟨u0,[],rfl,H H6,rfl,rfl,arr_start _ _ _ rfl⟩
 case round =>
  obtain ⟨x,done,rfl,hx,rfl,hdone,jE⟩:=hrel
  have HD:=M hdone
  have aI:=putU_at (H HL) hdone
  have hdl':(done.length:Int) < 10:=by omega
  clear hdone
  obtain ⟨v0,hv0⟩:=jE.some (j:=done.length) (by omega)
  have hf0:=jE.free done.length
  by_cases xI:x < 128
  ·have HE:=M (putU_end xI (H HD))
   have HA:=M (arr_step (x:Int) jE (by omega))
   have hsl:=slice_head10 w.heap.size done.length (by omega)
   clear jE
   go_wp2_with fail
   go_ret
   have hE:=H HE
   rw [hE] at HA
   have xA:done.length + 1 = (putU u0).length:=by rw [← hE]; simp
   refine ⟨_,rfl,?_,(H HA).below⟩
   rw [xA]
   exact arr_own (H HA) rfl (by omega)
  ·have uJ:(128:Int) ≤ x:=by omega
   have hand:=and127 x hx
   have HA:=M (arr_step ((x:Int) % 128 + 128) jE (by omega))
   clear jE
   go_wp2_with fail
   go_roundw
   case rel=>exact ⟨x / 128,done ++ [(x:Int) % 128 + 128],by go_num,by unfold Lt64 at *; omega,by simp,putU_step xI (H HD),H HA⟩
   case measure=>simp [intOf]; omega
def bM (s:ByteArray):List Int:=putU (zz (cutB s).size) ++ bl (cutB s)
theorem textL_len (s:ByteArray):0 < (bM s).length∧(bM s).length ≤ 1073741824:=by
 have Q:=putU_pos (zz (cutB s).size)
 have E:=et s
 have h3:=eQ (zz (cutB s).size) (zz_lt _ (by omega) (by omega))
 rw [bM,yP,bl_len]
 omega
theorem implText_any (s:ByteArray) (w:World) (hs:s.size ≤ maxLen) :
  Calls Tryz.prog 190 #[yk s] w fun e w'=>∃ v,e = .returned v∧OwnT w.heap.size w' v (bM s)∧yn w w':=by
 obtain ⟨i0,hi,uL,uM,uF⟩:=info_parts Tryz.infoByte
 have hc:=et s
 have HT:=M (textL_len s).2
 have HTL:=M (show bM s = putU (zz (cutB s).size) ++ bl (cutB s) from rfl)
 have HC:=M (fun w=>implCut_any s w hs)
 generalize cutB s = c at *
 generalize bM s = l at *
 clear hs
 go_enter Tryz.func190,Tryz.ntmps190
 go_wp2_with fail
 refine (H HC _).mono ?_
 rintro e w0 ⟨rfl,rfl⟩
 go_wp2_with fail
 refine (implPut_any c.size _ (by omega) (by omega)).mono ?_
 rintro e w1 ⟨v1,rfl,N,Y⟩
 have HO:=M N
 have HB:=M Y
 clear N Y
 go_wp2_with (at_builtin; go_must (refine wpList_append_text _ rfl _ _ 115 9 rfl w0.heap.size 5 i0 Tryz.underlying115 Tryz.underlying9 hi uL uM uF _ _ rfl (H HO) c rfl (by have:=H HT; rw [H HTL,yP,bl_len] at this; exact this) (H HB).size ?_); intro v2 w2 kI uZ)
 go_ret
 refine ⟨_,rfl,by rw [H HTL]; exact kI,(H HB).grown uZ (H HB).size (OwnT.ge (H HO))⟩
def fl8 (u:Nat):List Int:=[(u:Int) / 72057594037927936 % 256,(u:Int) / 281474976710656 % 256,(u:Int) / 1099511627776 % 256,(u:Int) / 4294967296 % 256,
 (u:Int) / 16777216 % 256,(u:Int) / 65536 % 256,(u:Int) / 256 % 256,(u:Int) % 256]
theorem fl8_len (u:Nat):(fl8 u).length = 8:=rfl
theorem Tryz.arrayLen236:Tryz.prog.arrayLen 236 = 8:=by kernel_rfl
theorem slice_all8 (B:Nat) (W:World) :
  (Instr.sliceAt 236 (J B 0) none none none).run Tryz.prog W = .ok (.slice (some (U B 0)) 8 8) W:=by
 rw [run_sliceAt_array_all W 236 _ (by kernel_rfl),Tryz.arrayLen236]
 have hs:(sizeOf (Tryz.prog.elem 236)).run Tryz.prog W = .ok 1 W:=by kernel_rfl
 rw [hs]
 simp [slicedAt,Result.andThen,Addr.add]
theorem implFloat_bits (x u:Nat) (w:World) (hu:fbit x = u) :
  Calls Tryz.prog 188 #[yj x] w fun e w'=>∃ v,e = .returned v∧OwnT w.heap.size w' v (fl8 u)∧yn w w':=by
 have hsl:=slice_all8 w.heap.size
 have HF:=M (fun w=>hu ▸ fd x w)
 clear hu
 go_enter Tryz.func188,Tryz.ntmps188
 go_wp2_with (go_at_call 123; refine (H HF _).mono ?_; rintro e w' ⟨rfl,rfl⟩)
 refine wp_loop_rounds 9 ?_
 repeat (rw [rounds_succ]; go_wp2_with fail)
 go_ret
 exact ⟨_,rfl,⟨_,8,_,_,rfl,Nat.le_refl _,heap_alloc_new _ _,by rw [fl8_len]; decide,by simp,by unfold maxLen; omega,by rw [fl8_len]; decide,by simp [fl8]⟩,fE _ _⟩
theorem implFloat_any (x:Nat) (w:World) :
  Calls Tryz.prog 188 #[yj x] w fun e w'=>∃ v,e = .returned v∧OwnT w.heap.size w' v (fl8 (fbit x))∧yn w w' :=
 implFloat_bits x _ w rfl
def Ev.num (e:Ev):Nat→Int
 | 1=>e.cmd.k
 | 2=>e.cmd.s
 | 3=>e.cmd.t
 | 4=>e.cmd.l
 | 5=>e.cmd.q
 | 6=>e.cmd.i
 | 9=>e.id
 | 10=>e.other
 | 11=>e.qty
 | 12=>e.price
 | 13=>e.reason
 | _=>0
theorem ev_num (e:Ev) {o:Nat} (h:plcO o = true):e.vs[o]? = some (I (e.num o)):=by
 rcases (show o = 1 ∨ o = 2 ∨ o = 3 ∨ o = 4 ∨ o = 5 ∨ o = 6 ∨ o = 9 ∨ o = 10 ∨ o = 11 ∨ o = 12 ∨ o = 13 by simp [plcO] at h; omega) with rfl | rfl | rfl | rfl | rfl | rfl | rfl | rfl | rfl | rfl | rfl
 all_goals rfl
structure Ev.fit (e:Ev):Prop where
 n:∀ o,-9223372036854775808 ≤ e.num o∧e.num o ≤ 9223372036854775807
 k:-9223372036854775808 ≤ e.kind∧e.kind ≤ 9223372036854775807
 p:e.cmd.p < 18446744073709551616
 g:e.cmd.g.size ≤ maxLen
def wrF (e:Ev) (o:Nat):List Int:=if o = 7 then fl8 (fbit e.cmd.p) else if o = 8 then bM e.cmd.g else putU (zz (e.num o))
theorem ownT_base {B C:Nat} {w:World} {v:Value} {l:List Int} (h:OwnT C w v l) (hB:B ≤ C):OwnT B w v l:=by
 obtain ⟨g,cap,xF,t,Q,E,h3⟩:=h
 exact ⟨g,cap,xF,t,Q,yN hB E,h3⟩
def WrEnd (w:World) (l:List Int) (r:Ending) (w':World):Prop:=∃ v,r = .returned v∧OwnT w.heap.size w' v l∧yn w w'
theorem writeNum_any (e:Ev) (b o:Nat) (w:World) (he:e.fit) (N:plcO o = true) (hc:w.cell? (U b 0) = some (.func (.func (plcV o)) #[] #[])) :
  Calls Tryz.prog 184 #[evV e,J b 0] w fun r w'=>WrEnd w (putU (zz (e.num o))) r w':=by
 have xz:=fE w (Obj.cells e.vs.toArray 52)
 have hx:=R (zq w e.vs 52) o (ev_num e N)
 have HP:=M (fun W=>plc_any o w.heap.size W N)
 have hpe:=plc_enter o N
 have xI:=yK w _ hc
 have hc':=(xz.cell (p:=(U b 0)) xI).trans hc
 have HI:=M (fun W=>implPut_any (e.num o) W (he.n o).1 (he.n o).2)
 have HB:=M xz
 have HZ:Hid ((w.alloc (Obj.cells e.vs.toArray 52)).heap.size = w.heap.size + 1):=by show _ = _; simp
 clear xz hc he
 generalize plcV o = f at *
 generalize e.num o = z at *
 unfold evV
 unfold Ev.vs at hx hc' HB HZ
 obtain ⟨xm,⟨ck,L,ct,F,cq,ci,X,cg⟩,id,xi,qty,xj,xh⟩:=e
 simp only at hx hc' HB HZ ⊢
 go_enter Tryz.func184,Tryz.ntmps184
 go_wp2_with fail
 refine (H HP _).mono ?_
 rintro r w1 ⟨rfl,qB⟩
 rw [qB]
 clear qB
 go_wp2_with fail
 refine (H HI _).mono ?_
 rintro r w2 ⟨v,rfl,kI,xJ⟩
 have HE:Hid (WrEnd w (putU (zz z)) (.returned v) w2):=⟨v,rfl,ownT_base kI (by rw [H HZ]; omega),(H HB).trans (xJ.mono (H HB).size)⟩
 clear kI xJ
 go_wp2_with fail
 go_ret
 exact H HE
theorem writePrice_any (e:Ev) (w:World) (he:e.fit):Calls Tryz.prog 150 #[evV e] w fun r w'=>WrEnd w (fl8 (fbit e.cmd.p)) r w':=by
 have hsf:=sfl
 have xz:=fE w (Obj.cells e.vs.toArray 52)
 have hx:=R (zq w e.vs 52) 7 rfl
 have HI:=M (fun W=>implFloat_any e.cmd.p W)
 have HB:=M xz
 have HZ:Hid ((w.alloc (Obj.cells e.vs.toArray 52)).heap.size = w.heap.size + 1):=by show _ = _; simp
 clear xz he
 unfold evV
 unfold Ev.vs at hx HB HZ
 obtain ⟨xm,⟨ck,L,ct,F,cq,ci,X,cg⟩,id,xi,qty,xj,xh⟩:=e
 simp only at hx HB HZ HI ⊢
 go_enter Tryz.func150,Tryz.ntmps150
 go_wp2_with fail
 refine (H HI _).mono ?_
 rintro r w2 ⟨v,rfl,kI,xJ⟩
 have HE:Hid (WrEnd w (fl8 (fbit X)) (.returned v) w2):=⟨v,rfl,ownT_base kI (by rw [H HZ]; omega),(H HB).trans (xJ.mono (H HB).size)⟩
 clear kI xJ
 go_wp2_with fail
 go_ret
 exact H HE
theorem writeTag_any (e:Ev) (w:World) (he:e.fit):Calls Tryz.prog 152 #[evV e] w fun r w'=>WrEnd w (bM e.cmd.g) r w':=by
 have hq:=he.g
 have xz:=fE w (Obj.cells e.vs.toArray 52)
 have hx:=R (zq w e.vs 52) 8 rfl
 have HI:=M (fun W=>implText_any e.cmd.g W he.g)
 have HB:=M xz
 have HZ:Hid ((w.alloc (Obj.cells e.vs.toArray 52)).heap.size = w.heap.size + 1):=by show _ = _; simp
 clear xz he
 unfold evV
 unfold Ev.vs at hx HB HZ
 obtain ⟨xm,⟨ck,L,ct,F,cq,ci,X,cg⟩,id,xi,qty,xj,xh⟩:=e
 simp only at hx HB HZ HI ⊢
 go_enter Tryz.func152,Tryz.ntmps152
 go_wp2_with fail
 refine (H HI _).mono ?_
 rintro r w2 ⟨v,rfl,kI,xJ⟩
 have HE:Hid (WrEnd w (bM cg) (.returned v) w2):=⟨v,rfl,ownT_base kI (by rw [H HZ]; omega),(H HB).trans (xJ.mono (H HB).size)⟩
 clear kI xJ
 go_wp2_with fail
 go_ret
 exact H HE
theorem writeField_any (cl o:Nat) (c:Fc) (e:Ev) (W:World) (he:e.fit) (N:EvO o) (hf:FF W cl o c):Calls Tryz.prog c.n1 (#[evV e] ++ c.l) W fun r w'=>WrEnd W (wrF e o) r w':=by
 unfold FF at hf
 unfold wrF
 unfold EvO at N
 rcases N with rfl | rfl | N
 ·rw [if_pos rfl] at hf
  subst hf
  exact writePrice_any e W he
 ·rw [if_neg (by decide),if_pos rfl] at hf
  subst hf
  exact writeTag_any e W he
 ·have h7:o ≠ 7:=by intro e; subst e; simp [plcO] at N
  have h8:o ≠ 8:=by intro e; subst e; simp [plcO] at N
  rw [if_neg h7,if_neg h8] at hf ⊢
  obtain ⟨b,rfl,Q,E,h3⟩:=hf
  exact writeNum_any e b o W he N h3
theorem isKind_any (c:Int) (a:Option Addr) (n cap:Nat) (w:World):Calls Tryz.prog 69 #[.agg #[I c,.slice a n cap]] w fun e w'=>e = .returned (.bool (decide (0 < n)))∧yn w w':=by
 go_enter Tryz.func69,Tryz.ntmps69
 go_wp2_with fail
 go_ret
 exact ⟨rfl,by go_grown⟩
theorem bel_gr {w W:World} (h:yn w W) (zb:Nat):w.grownBy W (some zb):=⟨h.os,h.tape,h.output,h.size,fun i hi _=>h.block i hi⟩
theorem gr_bel {w W xn:World} {zb:Nat} (h:w.grownBy W (some zb)) (E:yn W xn):w.grownBy xn (some zb):=bz h (bel_gr E zb)
theorem ff_gr {cl o zb:Nat} {W W':World} {c:Fc} (h:FF W cl o c) (Y:W.grownBy W' (some zb)) (K:zb < cl):FF W' cl o c:=by
 unfold FF at h ⊢
 split
 ·rwa [if_pos ‹_›] at h
 ·rw [if_neg ‹_›] at h
  split
  ·rwa [if_pos ‹_›] at h
  ·rw [if_neg ‹_›] at h
   obtain ⟨b,Q,E,h3,h4⟩:=h
   exact ⟨b,Q,E,yJ h3 Y.size,Y.cell h4 (by simp; omega)⟩
theorem event_any (wb:World) (zb:Nat) (v:Value) (l:List Int) (k:Nat) (w:World) (hs:RSr wb zb v l k w) :
  Calls Tryz.prog 122 #[.pointer (some ⟨zb,0,none⟩)] w fun e w'=>EvEnd zb v w (evA l k) e w':=by
 have hsf:=sfl
 have hsfn:=sfn
 have hRw:=hs.lt
 have xA:(l.length:Int) ≤ 65536:=by have:=hs.ll; omega
 have pa:=hs.kk
 have ud:Hid (yn w (w.alloc (A (yv 0 0 0 0 0 0 0 0 ⟨#[]⟩ 0 0 0 0 0).toArray 52))):=fE _ _
 have uB:=M (zq w (yv 0 0 0 0 0 0 0 0 ⟨#[]⟩ 0 0 0 0 0) 52)
 have pM:=M (hs.below (H ud) hRw)
 have qM:Hid ((w.alloc (A (yv 0 0 0 0 0 0 0 0 ⟨#[]⟩ 0 0 0 0 0).toArray 52)).heap.size = w.heap.size + 1):=by show _ = _; simp
 have HS:=M hs
 clear hs
 rw [show (yv 0 0 0 0 0 0 0 0 ⟨#[]⟩ 0 0 0 0 0).toArray = (yv 0 0 0 0 0 0 0 0 ⟨#[]⟩ 0 0 0 0 0).toArray from rfl] at uB
 obtain ⟨a,cap,hv⟩:=rd_len (H HS).rd
 go_enter Tryz.func122,Tryz.ntmps122
 go_wp2_with fail
 generalize (w.alloc (A (yv 0 0 0 0 0 0 0 0 ⟨#[]⟩ 0 0 0 0 0).toArray 52)) = W1 at ud uB pM qM ⊢
 by_cases vo:l.length ≤ k
 ·have HE:=M (evA_end vo)
  have HR:=M (hv ▸ (H pM).r)
  refine (take_end zb 1 k a l.length cap _ (H HR) (by omega) (by omega) (by omega) (by omega) (by omega)).mono ?_
  rintro e w1 ⟨rfl,q,rfl⟩
  go_wp2_with fail
  exact ⟨rfl,evEnd_fail (bz (bel_gr (H ud) zb) (bZ _ _ _)) (H HE) _⟩
 clear hv
 obtain ⟨b,off,uD,rfl,kC,uq,xr⟩:∃ b off uD,v = .slice (some ⟨b,off,none⟩) l.length uD∧b < wb.heap.size∧l.length ≤ uD∧W1.cell? ⟨b,off + k,none⟩ = some (.int .u8 (l.getD k 0)):=by
  obtain ⟨a',c',hv',_,hc⟩:=(H pM).rd
  obtain ⟨b,off,rfl,xr⟩:=hc (by intro h; rw [h] at vo; simp at vo)
  have ui:=yK wb _ (xr 0 (by omega))
  exact ⟨b,off,c',hv',ui,(H pM).cap _ _ _ hv',((H pM).bel.cell (p:=⟨b,off + k,none⟩) ui).trans (xr k (by omega))⟩
 have HR:=M (H pM).r
 refine (take_ok zb 1 k b off l.length uD _ (H HR) (by omega) (by omega) uq (by omega)).mono ?_
 rintro e w2 ⟨rfl,q,rfl⟩
 have hgs:=bz (gr_set W1 ⟨zb,1,none⟩ (I ((k + 1:Nat):Int))) (bZ _ q _)
 have uh:=M (bz (bel_gr (H ud) zb) hgs)
 have qf:=M ((H pM).go hgs (((H pM).r.step ((k + 1:Nat):Int)).drewN q) (by omega))
 have xH:=M (aS (H uB) (hgs.block w.heap.size (by rw [H qM]; omega) (by simp; omega)))
 have HZ2:Hid (w.heap.size < ((W1.setCell ⟨zb,1,none⟩ (I ((k + 1:Nat):Int))).drewN q).heap.size):=yJ (by rw [H qM]; omega) hgs.size
 have ou:=hgs.cell xr (by have:=(H pM).le; simp; omega)
 have hbt:=bts_get (H HS).bb k
 have HSh:=M (fun (h:shF (l.getD k 0) = [])=>evA_no (by omega) h)
 have HYe:=M (fun (h:shF (l.getD k 0) ≠ [])=>evA_yes (by omega) h)
 clear hgs pM uB ud HR xr qM HS
 generalize (W1.setCell ⟨zb,1,none⟩ (I ((k + 1:Nat):Int))).drewN q = W2 at uh qf xH HZ2 ou ⊢
 generalize l.getD k 0 = kd at *
 obtain ⟨pA,hk1⟩:=hbt
 go_wp2_with fail
 refine (shape_any kd W2).mono ?_
 rintro e W3 ⟨fv,fs,rfl,hof,hff,xM⟩
 have uF:=H HZ2
 have vU:=(ffs_get hff).1
 have pJ:=M hof
 have HF3:=M hff
 have hS3:=(H qf).below xM (H qf).lt
 have ko:=zg (H xH) xM uF
 have hG3:=gr_bel (H uh) xM
 have aO:=yJ uF xM.size
 obtain ⟨fa,kB,rfl,hfl,uK⟩:=hof
 obtain ⟨xw,xE⟩:=fJ W3 [I (shC kd),.slice fa fs.length kB] 110
 have HS4:=M (hS3.below xw hS3.lt)
 have HX4r:=M (zg ko xw aO)
 have ut:=M (gr_bel hG3 xw)
 have vv:=M (ownR_below (H pJ) xw ya)
 have HF4:=M (fun (o:Nat) (c:Fc) (h:FF W3 W2.heap.size o c)=>dV h xw ya)
 have HZ4:Hid (W3.heap.size < (W3.alloc (A #[I (shC kd),.slice fa fs.length kB] 110)).heap.size):=by show _ < _; simp
 rw [show [I (shC kd),.slice fa fs.length kB].toArray = #[I (shC kd),.slice fa fs.length kB] from rfl] at xE
 clear hff xM hS3 ko hG3 uK xw qf xH uh pJ
 go_wp2_with fail
 generalize (W3.alloc (A #[I (shC kd),.slice fa fs.length kB] 110)) = W4 at xE HS4 HX4r ut vv HF4 HZ4 ⊢
 refine (isKind_any (shC kd) fa fs.length kB W4).mono ?_
 rintro e W5 ⟨rfl,uf⟩
 have hz4:=H HZ4
 have HS5:=M ((H HS4).below uf (H HS4).lt)
 have HX5r:=M (zg (H HX4r) uf (by omega))
 have uI:=M (zg (H xE) uf hz4)
 have uE:=M (gr_bel (H ut) uf)
 have jo:=M (ownR_below (H vv) uf ya)
 have HF5:=M (fun (o:Nat) (c:Fc) (h:FF W3 W2.heap.size o c)=>dV (H HF4 o c h) uf ya)
 have HZ5:=M (yJ hz4 uf.size)
 clear uf HS4 HX4r xE ut vv HF4 HZ4 hz4
 by_cases xD:fs.length = 0
 ·have HE:=M (H HSh (List.length_eq_zero_iff.1 (vU.trans xD)))
  have HR:=M (H HS5).r
  rw [xD]
  go_wp2_with fail
  refine (cO zb 3 _ _ _ (H HR)).mono ?_
  rintro e w6 ⟨rfl,rfl⟩
  go_wp2_with fail
  exact ⟨rfl,evEnd_fail (H uE) (H HE) _⟩
 have qK:decide (0 < fs.length) = true:=by simpa using Nat.pos_of_ne_zero xD
 have c50:=R (H uI) 0 rfl
 rw [qK]
 have HYE:=M (H HYe (by intro h; rw [h] at vU; exact xD vU.symm))
 have kp:=fE W5 (A (yv kd (shC kd) 0 0 0 0 0 0 ⟨#[]⟩ 0 0 0 0 0).toArray 52)
 have vp:Hid (Bx (W5.alloc (A (yv kd (shC kd) 0 0 0 0 0 0 ⟨#[]⟩ 0 0 0 0 0).toArray 52)) W5.heap.size (ev0 kd).vs):=zq W5 (ev0 kd).vs 52
 have HS6:=M ((H HS5).below kp (H HS5).lt)
 have qF:=M (bel_gr kp zb)
 have c51:=R (zg (H uI) kp (H HZ5)) 1 rfl
 clear kp qK
 go_wp2_with fail
 generalize (W5.alloc (A (yv kd (shC kd) 0 0 0 0 0 0 ⟨#[]⟩ 0 0 0 0 0).toArray 52)) = W6 at vp HS6 qF c51 ⊢
 go_loopw [28] (fun iv wr=>∃ (i n:Nat) (x:Ev),iv = I i∧i ≤ fs.length∧W5.grownBy wr (some zb)∧RSr wb zb (.slice (some ⟨b,off,none⟩) l.length uD) l n wr∧Bx wr W5.heap.size x.vs∧rdEs ((shF kd).drop i) x l n = evA l k) (fun iv _=>fs.length - (intOf iv).toNat)
 case atStart=>exact ⟨0,k + 1,ev0 kd,rfl,Nat.zero_le _,H qF,H HS6,H vp,(H HYE).symm⟩
 case round =>
  obtain ⟨i,n,x,rfl,hi,hg,hs,hx,xN⟩:=hrel
  have HG:=M hg
  have HS:=M hs
  have HX:=M hx
  have uR:=M xN
  clear hg hs hx xN
  by_cases xI:i < fs.length
  ·obtain ⟨c,hic⟩:∃ c,fs[i]? = some c:=⟨_,yH xI⟩
   obtain ⟨o,qT,ow⟩:=(ffs_get (H HF3)).2 i c hic
   have hfo5:=H HF5 o c ow
   obtain ⟨a7,c7,e7,_,uK⟩:=H jo
   simp only [Value.slice.injEq] at e7
   obtain ⟨rfl,_,rfl⟩:=e7
   obtain ⟨g,rfl,hg0,pV,xV,_⟩:=uK (by intro h; rw [h] at xI; simp at xI)
   have hR5:=(H HS5).lt
   have hRF:zb < W2.heap.size:=Nat.lt_trans hRw (H HZ2)
   have vG:g ≠ zb:=by omega
   have q0:=(H HG).cell (xV i c hic 0 _ rfl) (by simp; omega)
   have q1:=(H HG).cell (xV i c hic 1 _ rfl) (by simp; omega)
   simp only [Nat.zero_add,Nat.add_zero] at q0 q1
   have hen:=fun args xn=>(field_enter _ o c W5 hfo5 args xn).1
   have hEV:=shF_evO kd o (yO qT)
   have uJ:(i:Int) < fs.length:=by omega
   have hd:=xc (show i < (shF kd).length by rw [vU]; exact xI)
   rw [(yG.1 qT).2] at hd
   obtain ⟨n1,n2,F⟩:=c
   have qA:=fE wr (A #[.func (.func n1) #[] F,.func (.func n2) #[] F] 152)
   have hEw:W5.heap.size < wr.heap.size:=by
    obtain ⟨y,hy⟩:=Option.isSome_iff_exists.1 ((H HX).t 0 (by rw [Ev.len]; decide)).1
    exact yK wr _ hy
   have HCT:=M (readField_any wb w W2.heap.size zb W5.heap.size o ⟨n1,n2,F⟩ _ l n x.vs _ ((H HS).below qA (H HS).lt) (zg (H HX) qA hEw) hR5 (Ev.len x) hEV (dV (ff_gr hfo5 (H HG) hRF) qA ya) hRF)
   have HGA:=M (gr_bel (H HG) qA)
   have HD:=M hd
   have jm:=M hEV
   clear xV hic qT ow hfo5 hd qA hEV
   simp only at hen HCT
   go_wp2_with fail
   refine (H HCT).mono ?_
   rintro e w7 hFd
   cases hg:rdF o l n with
   | none =>
    obtain ⟨p,rfl⟩:=hFd.2.2 hg
    have HE:=M (((H uR).symm.trans (by rw [H HD])).trans (rdEs_none (os:=(shF kd).drop (i + 1)) (e:=x) hg))
    have jz:=M (bz (H uE) (gr2_on (H HGA) hFd.1 ya))
    clear hFd hg
    go_wp2_with fail
    exact ⟨rfl,evEnd_fail (H jz) (H HE) _⟩
   | some y =>
    obtain ⟨y,m⟩:=y
    obtain ⟨rfl,hs7,hx7⟩:=hFd.2.1 y m hg
    have HE:=M (((H uR).symm.trans (by rw [H HD])).trans (rdEs_some (os:=(shF kd).drop (i + 1)) (e:=x) hg))
    have jz:=M (gr2_on (H HGA) hFd.1 ya)
    rw [evs_put x (H jm) (rdF_ty hg)] at hx7
    have HS7:=M hs7
    have HX7:=M hx7
    clear hFd hg hs7 hx7
    go_wp2_with fail
    go_roundw
    case rel=>exact ⟨i + 1,m,x.put o y,by go_num,by omega,H jz,H HS7,H HX7,(H HE).symm⟩
    case measure=>simp [intOf]; omega
  ·have qa:i = fs.length:=by omega
   have HE:Hid (evA l k = some (x,n)):=by
    show evA l k = _
    rw [← H uR,List.drop_eq_nil_of_le (by omega)]
    rfl
   have ao:=H HX
   obtain ⟨xm,⟨ck,L,ct,F,cq,ci,X,cg⟩,id,xi,qty,xj,xh⟩:=x
   have d0:=R ao 0 rfl
   have d1:=R ao 1 rfl
   have d2:=R ao 2 rfl
   have d3:=R ao 3 rfl
   have d4:=R ao 4 rfl
   have d5:=R ao 5 rfl
   have d6:=R ao 6 rfl
   have d7:=R ao 7 rfl
   have d8:=R ao 8 rfl
   have d9:=R ao 9 rfl
   have kz:=R ao 10 rfl
   have og:=R ao 11 rfl
   have oh:=R ao 12 rfl
   have oi:=R ao 13 rfl
   have qY:=M (aS (H HX5r) ((H HG).block w.heap.size (Nat.lt_trans aO (H HZ5)) (by simp; omega)))
   have HRN:=M (H HS).r
   have HGW:=M (bz (H uE) (H HG))
   clear ao uR
   have z0:=R (H qY) 0 rfl
   have f0:=zd (H qY) 0 (by decide)
   have z1:=R (H qY) 1 rfl
   have f1:=zd (H qY) 1 (by decide)
   have z2:=R (H qY) 2 rfl
   have f2:=zd (H qY) 2 (by decide)
   have z3:=R (H qY) 3 rfl
   have f3:=zd (H qY) 3 (by decide)
   have z4:=R (H qY) 4 rfl
   have f4:=zd (H qY) 4 (by decide)
   have z5:=R (H qY) 5 rfl
   have f5:=zd (H qY) 5 (by decide)
   have z6:=R (H qY) 6 rfl
   have f6:=zd (H qY) 6 (by decide)
   have z7:=R (H qY) 7 rfl
   have f7:=zd (H qY) 7 (by decide)
   have z8:=R (H qY) 8 rfl
   have f8:=zd (H qY) 8 (by decide)
   have z9:=R (H qY) 9 rfl
   have f9:=zd (H qY) 9 (by decide)
   have kX:=R (H qY) 10 rfl
   have f10:=zd (H qY) 10 (by decide)
   have oz:=R (H qY) 11 rfl
   have f11:=zd (H qY) 11 (by decide)
   have oA:=R (H qY) 12 rfl
   have f12:=zd (H qY) 12 (by decide)
   have oB:=R (H qY) 13 rfl
   have f13:=zd (H qY) 13 (by decide)
   clear uI HX5r jo HF5 c50 c51 vp HS6 qF ou HS5 HX
   go_wp2_with fail
   rw [set14]
   have xT:=M (zF (us:=(yv xm ck L ct F cq ci X cg id xi qty xj xh)) (H qY) rfl)
   have HQ:=M (evEnd_done (gr_setCells (yv xm ck L ct F cq ci X cg id xi qty xj xh) (H HGW) (Nat.le_refl w.heap.size)) (H HE) (rdr_setCells (yv xm ck L ct F cq ci X cg id xi qty xj xh) (H HRN) (by omega)))
   clear z0 f0 z1 f1 z2 f2 z3 f3 z4 f4 z5 f5 z6 f6 z7 f7 z8 f8 z9 f9 kX f10 oz f11 oA f12 oB f13 d0 d1 d2 d3 d4 d5 d6 d7 d8 d9 kz og oh oi qY
   generalize (wr.setCells w.heap.size 0 (yv xm ck L ct F cq ci X cg id xi qty xj xh)) = WF at xT HQ ⊢
   obtain ⟨d0,d1,d2,d3,d4,d5,d6,d7,d8,d9,kz,og,oh,oi⟩:=yy (H xT)
   refine bodyPost_ret (v:=evV ⟨xm,⟨ck,L,ct,F,cq,ci,X,cg⟩,id,xi,qty,xj,xh⟩) ?_ rfl (H HQ)
   simp [results,Tryz.f122,go_sem,d0,d1,d2,d3,d4,d5,d6,d7,d8,d9,kz,og,oh,oi,evV]
abbrev BRow (W:World) (B:Nat) (v:Value) (l:List Int):Prop:=W.ownsRow B 5 1 v l.length (l.map (Value.int .u8))
theorem eh {W W':World} {B:Nat} {v:Value} {l:List Int} (h:BRow W B v l) (Y:yn W W'):BRow W' B v l :=
 World.ownsRow.kept h (row:=none) ⟨Y.os,Y.tape,Y.output,Y.size,fun k hk _=>Y.block k hk⟩ (by cases v.ownBlock <;> simp)
theorem bRow_more {W:World} {B:Nat} {v:Value} {l m:List Int} (h:W.ownsRow B 5 1 v (l.length + m.length) (l.map (Value.int .u8) ++ m.map (Value.int .u8))):BRow W B v (l ++ m):=by
 show W.ownsRow _ _ _ _ (l ++ m).length _
 rw [yP,List.map_append]; exact h
theorem bRow_own {W:World} {B:Nat} {v:Value} {l:List Int} (h:BRow W B v l) (xD:0 < l.length) (hl:l.length ≤ 1073741824):OwnT B W v l:=ownT_row xD hl h
theorem fx {P:Program} (w:World) {ops:Array Oper} {rest:List Oper} {o:Oper} {a:Act} {h1:Exit→Act→World→Prop} (hgd:o.guard = none) (s x:Operand) (t:TypeId)
  (N:o.op = .call { callee:=.builtin .append,args:=#[s,x],argTypes:=#[t,t] })
  (B:Nat) (i:TypeInfo) (ht:P.underlying t = some (.slice 5)) (hi:P.info? 5 = some i) (hz:i.zero = some (.int .u8 0)) (jx:i.size = 1) (hby:i.bytes = 1)
  (v:Value) (l:List Int) (hs:a.eval s = v) (xR:BRow w B v l) (C:Nat) (vx:Value) (m:List Int) (hx:a.eval x = vx) (hr:OwnT C w vx m)
  (Y:l.length + m.length ≤ 1073741824) (hB:B ≤ w.heap.size)
  (h:∀ v' w',BRow w' B v' (l ++ m)→w.grownBy w' v.ownBlock→(v'.ownBlock = v.ownBlock ∨ v'.ownBlock = some w.heap.size)→wpList P ops h1 rest (a.put o.dst v') w'):wpList P ops h1 (o :: rest) a w:=by
 obtain ⟨g,cap,xF,tt,rfl,_,hg,_,_,_,hl,kU⟩:=hr
 refine wpList_append_own_at w hgd s x t N B 5 i (.int .u8 0) 1 1 ht hi hz jx hby rfl (by decide) v l.length (l.map (Value.int .u8)) hs xR (U g 0) m.length cap (m.map (Value.int .u8)) hx (by simp) (fun j u O=>?_) (fun u hu=>?_)
  (by unfold maxLen; omega) (by omega) hB (fun v' w' Q E _ h4=>h v' w' (bRow_more Q) E h4)
 ·have hj':j < m.length:=by
   rcases Nat.lt_or_ge j m.length with h | h
   ·exact h
   ·rw [List.getElem?_eq_none (by simpa using h)] at O; cases O
  rw [List.getElem?_map,yH hj'] at O
  have e:((U g 0):Addr).add j = (U g j):=by unfold Addr.add; split <;> simp_all
  rw [e,cell_head hg kU hj']
  simpa [hj'] using O
 ·obtain ⟨y,_,rfl⟩:=List.mem_map.1 hu
  rfl
end Go.Proofs.YtnphbkgfjanmgaaGreatDoor
