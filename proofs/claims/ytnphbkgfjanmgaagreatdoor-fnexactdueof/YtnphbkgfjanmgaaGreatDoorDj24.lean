/-
  The bytes of an event laid behind others, by the program: proved by walking the function.
-/
import Derived.Test.YtnphbkgfjanmgaaGreatDoorDj23
set_option linter.unusedVariables false
set_option maxHeartbeats 6400000
set_option maxRecDepth 100000
namespace Go.Proofs.YtnphbkgfjanmgaaGreatDoor
open Go.RowKit
def evL (e:Ev):List Int:=e.kind :: (shF e.kind).flatMap (wrF e)
theorem textL_le (s:ByteArray):(bG s).length ≤ 23:=by
 have Y:=ej s
 have h3:=eK (zz (cutB s).size) (zz_lt _ (by omega) (by omega))
 rw [bG,yQ,bl_len]
 omega
theorem wrF_len (e:Ev) (he:e.fit) (o:Nat):0 < (wrF e o).length∧(wrF e o).length ≤ 23:=by
 unfold wrF
 split
 ·rw [fl8_len]; omega
 ·split
  ·exact ⟨(textL_len _).1,textL_le _⟩
  ·exact ⟨putU_pos _,yO (eK _ (zz_lt _ (he.n o).1 (he.n o).2)) (by omega)⟩
theorem flat_le (e:Ev) (he:e.fit):∀ os:List Nat,(os.flatMap (wrF e)).length ≤ 23 * os.length
 | []=>by simp
 | o :: os=>by
  have:=flat_le e he os
  have:=(wrF_len e he o).2
  rw [List.flatMap_cons,yQ,List.length_cons]
  omega
theorem shF_len (k:Int):(shF k).length ≤ 9:=by
 unfold shF
 repeat' split
 all_goals simp
structure AE (w Ws Wt:World) (v0:Value) (wr:World) (ov:Value):Prop where
 g:w.grownBy wr v0.ownBlock
 o:∀ q,ov.ownBlock = some q→v0.ownBlock = some q ∨ (w.heap.size < q∧(q < Ws.heap.size ∨ Wt.heap.size ≤ q))
 k:∀ i,i < Wt.heap.size→(i = w.heap.size ∨ Ws.heap.size ≤ i)→wr.heap[i]? = Wt.heap[i]?
 z:Wt.heap.size ≤ wr.heap.size
theorem ae_below {w Ws Wt wr wr':World} {v0 ov:Value} (h:AE w Ws Wt v0 wr ov) (E:yp wr wr'):AE w Ws Wt v0 wr' ov :=
 ⟨⟨E.os.trans h.g.os,E.tape.trans h.g.tape,E.output.trans h.g.output,yO h.g.size E.size,fun i hi hn=>(E.block i (yK hi h.g.size)).trans (h.g.block i hi hn)⟩,
  h.o,fun i hi hk=>(E.block i (yK hi h.z)).trans (h.k i hi hk),yO h.z E.size⟩
theorem ae_append {w Ws Wt wr wr':World} {v0 ov v':Value} (h:AE w Ws Wt v0 wr ov) (h0:∀ q,v0.ownBlock = some q→q < w.heap.size) (hws:w.heap.size < Ws.heap.size) (ji:Ws.heap.size ≤ Wt.heap.size) (hg:wr.grownBy wr' ov.ownBlock) (ha:v'.ownBlock = ov.ownBlock ∨ v'.ownBlock = some wr.heap.size):AE w Ws Wt v0 wr' v':=by
 refine ⟨⟨hg.os.trans h.g.os,hg.tape.trans h.g.tape,hg.output.trans h.g.output,yO h.g.size hg.size,fun i hi hn=>?_⟩,fun q hq=>?_,fun i hi hk=>?_,yO h.z hg.size⟩
 ·refine (hg.block i (yK hi h.g.size) fun e=>?_).trans (h.g.block i hi hn)
  rcases h.o i e.symm with N | ⟨N,_⟩
  ·exact hn N.symm
  ·omega
 ·rcases ha with ha | ha
  ·exact h.o q (ha ▸ hq)
  ·rw [ha] at hq
   obtain rfl:wr.heap.size = q:=by simpa using hq
   exact .inr ⟨by have:=h.z; omega,.inr h.z⟩
 ·refine (hg.block i (yK hi h.z) fun e=>?_).trans (h.k i hi hk)
  rcases h.o i e.symm with N | ⟨N,Y⟩
  ·have:=h0 i N; omega
  ·omega
theorem ff_blk {cl o:Nat} {W W':World} {c:Fc} (h:FF W cl o c) (hs:W.heap.size ≤ W'.heap.size) (E:∀ i,i < W.heap.size→cl ≤ i→W'.heap[i]? = W.heap[i]?):FF W' cl o c:=by
 unfold FF at h ⊢
 split
 ·rwa [if_pos ‹_›] at h
 ·rw [if_neg ‹_›] at h
  split
  ·rwa [if_pos ‹_›] at h
  ·rw [if_neg ‹_›] at h
   obtain ⟨b,N,Y,h3,h4⟩:=h
   exact ⟨b,N,Y,yK h3 hs,(yR (a:=(Q b 0)) (E b h3 Y)).trans h4⟩
theorem fld_shape (c:Int) (a:Option Addr) (n cap:Nat) (W:World):(Instr.field 110 (.agg #[I c,.slice a n cap]) 1).run Tryz.prog W = .ok (.slice a n cap) W:=by kernel_rfl
def AdEnd (B:Nat) (v0:Value) (l:List Int) (w:World) (r:Ending) (w':World):Prop :=
 ∃ v,r = .returned v∧BRow w' B v l∧w.grownBy w' v0.ownBlock∧∀ q,v.ownBlock = some q→v0.ownBlock = some q ∨ w.heap.size < q
theorem adEnd_done {B:Nat} {v0 ov:Value} {l:List Int} {w Ws Wt wr:World} (hr:BRow wr B ov l) (h:AE w Ws Wt v0 wr ov):AdEnd B v0 l w (.returned ov) wr :=
 ⟨ov,rfl,hr,h.g,fun q hq=>(h.o q hq).imp (fun h=>h) fun h=>h.1⟩
theorem addEvent_any (e:Ev) (he:e.fit) (hk:1 ≤ e.kind∧e.kind ≤ 9) (B:Nat) (v0:Value) (l0:List Int) (w:World) (hB:B ≤ w.heap.size) (uG:BRow w B v0 l0) (jH:l0.length ≤ 1048576) :
  Calls Tryz.prog 71 #[v0,evV e] w fun r w'=>AdEnd B v0 (l0 ++ evL e) w r w':=by
 have hsf:=sfl
 have hsfn:=sfn
 have hfld:=fld_shape
 obtain ⟨i0,vA,uH,uI,uW⟩:=info_parts Tryz.infoByte
 have h0:∀ q,v0.ownBlock = some q→q < w.heap.size:=fun q hq=>(uG.lt q hq).2
 have HFit:=H he
 have HKd:=H hk
 have ue:Hid (yp w (w.alloc (Obj.cells e.vs.toArray 52))):=fw _ _
 have uA:=H (zq w e.vs 52)
 have qL:Hid ((w.alloc (Obj.cells e.vs.toArray 52)).heap.size = w.heap.size + 1):=by show _ = _; simp
 have vz:=H (dZ uG (U ue))
 have HWF:=H (fun cl o c W N Y=>writeField_any cl o c e W he N Y)
 have HWL:=H (wrF_len e he)
 have HFL:=H (flat_le e he)
 have pw:0 ≤ e.kind:=by omega
 have hk1:e.kind ≤ 255:=by omega
 clear he hk uG
 have HEL:=H (show evL e = e.kind :: (shF e.kind).flatMap (wrF e) from rfl)
 generalize evL e = EL at *
 generalize wrF e = wf at *
 obtain ⟨xn,⟨ck,A,ct,F,cq,ci,O,cg⟩,id,xj,qty,xk,xi⟩:=e
 unfold evV at HWF ⊢
 unfold Ev.vs at ue uA qL vz
 simp only at HWF ue uA qL vz HEL pw hk1 ⊢
 go_enter Tryz.func71,Tryz.ntmps71
 refine fD fun zb xU=>?_
 go_wp2_with fail
 refine U xU _ _ ?_
 clear xU
 generalize (w.alloc (Obj.cells (yw xn ck A ct F cq ci O cg id xj qty xk xi).toArray 52)) = xo at ue uA qL vz ⊢
 have x0:=K (U uA) 0 rfl
 have kq:Hid (yp xo (xo.alloc (Obj.cells #[.int .u8 xn] 5))):=fw _ _
 have HOT:Hid (OwnT xo.heap.size (xo.alloc (Obj.cells #[.int .u8 xn] 5)) (.slice (some (Q xo.heap.size 0)) 1 1) [xn]):=⟨xo.heap.size,1,#[.int .u8 xn],5,rfl,Nat.le_refl _,heap_alloc_new _ _,Nat.le_refl _,Nat.le_refl _,by unfold maxLen; omega,by simp,rfl⟩
 have HRA:=H (dZ (U vz) (U kq))
 have HZA:Hid ((xo.alloc (Obj.cells #[.int .u8 xn] 5)).heap.size = w.heap.size + 2):=by show _ = _; simp [U qL]
 refine fD fun zb xU=>?_
 go_wp2_with (at_builtin; go_must (refine fo _ rfl (.tmp 7) (.tmp 11) 115 rfl B i0 Tryz.underlying115 vA uH uI uW _ l0 rfl (U HRA) xo.heap.size _ [xn] rfl (U HOT) (by simp; omega) (by have:=U HZA; omega) ?_); intro v1 w1 jv pS ha1)
 have hxz:=U HZA
 have hgA:w.grownBy w1 v0.ownBlock:=by
  have E:=(U ue).trans ((U kq).mono (U ue).size)
  exact ⟨pS.os.trans E.os,pS.tape.trans E.tape,pS.output.trans E.output,yO E.size pS.size,fun i hi hn=>(pS.block i (by omega) hn).trans (E.block i hi)⟩
 have jt:Bx w1 w.heap.size (yw xn ck A ct F cq ci O cg id xj qty xk xi):=aO (zf (U uA) (U kq) (by rw [U qL]; omega)) (pS.block w.heap.size (by omega) (fun e=>absurd (h0 _ e.symm) (Nat.lt_irrefl _)))
 have qx:w.heap.size + 2 ≤ w1.heap.size:=by have:=pS.size; omega
 have hv1:∀ q,v1.ownBlock = some q→v0.ownBlock = some q ∨ (w.heap.size < q∧q < w1.heap.size):=fun q hq=>by
  rcases ha1 with ha | ha
  ·exact .inl (ha ▸ hq)
  ·refine .inr ⟨?_,(jv.lt q hq).2⟩
   rw [ha] at hq
   have:(xo.alloc (Obj.cells #[.int .u8 xn] 5)).heap.size = q:=by simpa using hq
   omega
 refine U xU _ _ ?_
 have x1:=K jt 0 rfl
 have HGA:=H hgA
 have xI:=H jt
 have HV1:=H hv1
 have vY:=H jv
 clear xU pS ha1 hgA jt hv1 jv ue uA qL vz kq HOT HRA HZA x0 hxz
 go_wp2_with fail
 refine (shape_any xn w1).mono ?_
 rintro r W3 ⟨fv,fs,rfl,hof,hff,xQ⟩
 have vV:=(ffs_get hff).1
 have HF3:=H hff
 have pF:=H hof
 have ax:=H (dZ (U vY) xQ)
 have HAE:Hid (AE w w1 W3 v0 W3 v1):=⟨⟨xQ.os.trans (U HGA).os,xQ.tape.trans (U HGA).tape,xQ.output.trans (U HGA).output,yO (U HGA).size xQ.size,fun i hi hn=>(xQ.block i (by omega)).trans ((U HGA).block i hi hn)⟩,
  fun q hq=>(U HV1 q hq).imp (fun h=>h) fun h=>⟨h.1,.inl h.2⟩,fun _ _ _=>rfl,Nat.le_refl _⟩
 have uP:=H (zf (U xI) xQ (by omega))
 have ji:=xQ.size
 obtain ⟨fa,ky,rfl,hfl,uG⟩:=hof
 clear hff xQ vY HGA HV1 xI x1 uG
 go_wp2_with fail
 go_loopw [0,18] (fun ov iv wr=>∃ (k:Nat),k ≤ fs.length∧iv = I k∧Hid (BRow wr B ov (l0 ++ [xn] ++ ((shF xn).take k).flatMap wf)∧AE w w1 W3 v0 wr ov)) (fun _ iv _=>fs.length - (intOf iv).toNat)
 case atStart=>exact ⟨0,Nat.zero_le _,rfl,by rw [List.take_zero,List.flatMap_nil,List.append_nil]; exact U ax,U HAE⟩
 case round =>
  obtain ⟨k,hk,rfl,hin⟩:=hrel
  by_cases xJ:k < fs.length
  ·obtain ⟨c,hic⟩:∃ c,fs[k]? = some c:=⟨_,yI xJ⟩
   obtain ⟨o,qQ,oq⟩:=(ffs_get (U HF3)).2 k c hic
   obtain ⟨hrw,oh⟩:=U hin
   have hfw:=ff_blk oq oh.z (fun i hi hF=>oh.k i hi (.inr hF))
   obtain ⟨a7,c7,e7,_,uG⟩:=U pF
   simp only [Value.slice.injEq] at e7
   obtain ⟨rfl,_,rfl⟩:=e7
   obtain ⟨g,rfl,hg0,pS,xV,_⟩:=uG (by intro h; rw [h] at xJ; simp at xJ)
   have hgb:=oh.k g pS (.inr hg0)
   have q0:wr.cell? (Q g (0 + k * 2 + 0)) = _:=(yR (a:=(Q g (0 + k * 2 + 0))) hgb).trans (xV k c hic 0 _ rfl)
   have q1:wr.cell? (Q g (0 + k * 2 + 1)) = _:=(yR (a:=(Q g (0 + k * 2 + 1))) hgb).trans (xV k c hic 1 _ rfl)
   simp only [Nat.zero_add,Nat.add_zero] at q0 q1
   have hen:=fun args hj=>(field_enter _ o c wr hfw args hj).2
   have hEV:=shF_evO xn o (yP qQ)
   have uF:(k:Int) < fs.length:=by omega
   have HD:Hid ((shF xn).take (k + 1) = (shF xn).take k ++ [o]):=by
    show (shF xn).take (k + 1) = _
    rw [List.take_add_one,qQ]
    rfl
   obtain ⟨n1,n2,fl⟩:=c
   have qw:=fw wr (Obj.cells #[.func (.func n1) #[] fl,.func (.func n2) #[] fl] 152)
   have hXw:Bx wr w.heap.size (yw xn ck A ct F cq ci O cg id xj qty xk xi):=aO (U uP) (oh.k w.heap.size (by omega) (.inl rfl))
   have hX:=zf hXw qw (by have:=oh.z; omega)
   have z0:=K hX 0 rfl
   have z1:=K hX 1 rfl
   have z2:=K hX 2 rfl
   have z3:=K hX 3 rfl
   have z4:=K hX 4 rfl
   have z5:=K hX 5 rfl
   have z6:=K hX 6 rfl
   have z7:=K hX 7 rfl
   have z8:=K hX 8 rfl
   have z9:=K hX 9 rfl
   have kU:=K hX 10 rfl
   have ow:=K hX 11 rfl
   have ox:=K hX 12 rfl
   have oy:=K hX 13 rfl
   have HCT:=H (U HWF w1.heap.size o ⟨n1,n2,fl⟩ _ hEV (dQ hfw qw yb))
   have HRW:=H (dZ hrw qw)
   have HAW:=H (ae_below oh qw)
   have hL:=yO (U HFL ((shF xn).take k)) (Nat.mul_le_mul_left 23 (yO (List.length_take_le _ _) (Nat.le_refl k)))
   have jG:k ≤ 9:=yO hk (by rw [← vV]; exact shF_len xn)
   have hLL:(l0 ++ [xn] ++ ((shF xn).take k).flatMap wf).length ≤ 1048784:=by
    rw [yQ,yQ,List.length_singleton]; omega
   have hLO:=(U HWL o)
   have HZR:=H oh.z
   clear xV hic qQ oq hfw qw hEV hin hrw oh hX hXw hL uG hgb
   simp only at hen HCT
   generalize hLD:l0 ++ [xn] ++ ((shF xn).take k).flatMap wf = fy at *
   have HLD:=H hLD
   clear hLD
   go_wp2_with fail
   refine (U HCT).mono ?_
   rintro r w4 ⟨v4,rfl,ho4,xy⟩
   have HR4:=H (dZ (U HRW) xy)
   have HA4:=H (ae_below (U HAW) xy)
   have vr:=H ho4
   have hB4:B ≤ w4.heap.size:=by have:=(U HA4).z; omega
   have HN:Hid (l0 ++ [xn] ++ ((shF xn).take (k + 1)).flatMap wf = fy ++ wf o):=by
    show l0 ++ [xn] ++ ((shF xn).take (k + 1)).flatMap wf = fy ++ wf o
    rw [U HD,List.flatMap_append,← List.append_assoc,U HLD]
    simp
   clear ho4 xy HRW HAW HCT z0 z1 z2 z3 z4 z5 z6 z7 z8 z9 kU ow ox oy q0 q1 hen
   go_wp2_with (at_builtin; go_must (refine fo _ rfl (.tmp 22) (.tmp 26) 115 rfl B i0 Tryz.underlying115 vA uH uI uW _ fy rfl (U HR4) _ _ (wf o) rfl (U vr) (by omega) hB4 ?_); intro v5 w5 hr5 ja ha5; have vD:=H hr5; have HA5:=H (ae_append (U HA4) h0 (by omega) ji ja ha5); clear hr5 ja ha5)
   go_roundw
   case rel=>exact ⟨k + 1,by omega,by go_num,by rw [U HN]; exact U vD,U HA5⟩
   case measure=>simp [intOf]; omega
  ·obtain ⟨hrw,oh⟩:=U hin
   have oJ:k = fs.length:=by omega
   rw [xa (by omega),List.append_assoc,show [xn] ++ (shF xn).flatMap wf = EL from (U HEL).symm] at hrw
   have HE:=H (adEnd_done hrw oh)
   clear hrw oh hin
   go_wp2_with fail
   go_ret
   exact U HE
end Go.Proofs.YtnphbkgfjanmgaaGreatDoor
namespace Go.Proofs.YtnphbkgfjanmgaaGreatDoor
open Go

theorem unz_zz (n:Int):unz (zz n) = n:=by
 unfold unz zz
 by_cases h:n < 0
 ·rw [if_pos h,if_pos (by omega)]; omega
 ·rw [if_neg h,if_neg (by omega)]; omega
theorem drop_head {l r:List Int} {k:Nat} {c:Int} (h:l.drop k = c :: r):k < l.length∧l.getD k 0 = c∧l.drop (k + 1) = r:=by
 have hk:k < l.length:=by
  rcases Nat.lt_or_ge k l.length with N | N
  ·exact N
  ·rw [List.drop_eq_nil_of_le N] at h; cases h
 rw [xd hk] at h
 injection h with N Y
 exact ⟨hk,by simp [hk,N],Y⟩
theorem putU_bts:∀ (u:Nat),∀ x ∈ putU u,0 ≤ x∧x ≤ 255:=by
 intro u
 induction u using Nat.strongRecOn with
 | _ u ih =>
  by_cases hu:u < 128
  ·rw [ec hu]; intro x hx; simp at hx; omega
  ·rw [eJ hu]; intro x hx
   rcases List.mem_cons.1 hx with rfl | hx
   ·omega
   ·exact ih (u / 128) (by omega) x hx
end Go.Proofs.YtnphbkgfjanmgaaGreatDoor
namespace Go.Proofs.YtnphbkgfjanmgaaGreatDoor
open Go.RowKit
theorem fl8_bts (u:Nat):Bts (fl8 u):=by
 intro x hx
 simp only [fl8,List.mem_cons,List.not_mem_nil,or_false] at hx
 omega
theorem dC (u m n:Nat) (ym:Int) (hM:ym = (m:Int)) (hn:n = m * 256):shl8 (u / n) ((u:Int) / ym % 256) = u / m:=by
 subst hM hn
 unfold shl8
 rw [← Int.natCast_ediv,← Nat.div_div_eq_div_mul]
 generalize u / m = q
 omega
theorem fl8_back (u:Nat) (h:u < 18446744073709551616):(fl8 u).foldl shl8 0 = u:=by
 have s0:=dC u 72057594037927936 18446744073709551616 72057594037927936 rfl rfl
 rw [Nat.div_eq_of_lt h] at s0
 have s1:=dC u 281474976710656 72057594037927936 281474976710656 rfl rfl
 have s2:=dC u 1099511627776 281474976710656 1099511627776 rfl rfl
 have s3:=dC u 4294967296 1099511627776 4294967296 rfl rfl
 have s4:=dC u 16777216 4294967296 16777216 rfl rfl
 have s5:=dC u 65536 16777216 65536 rfl rfl
 have s6:=dC u 256 65536 256 rfl rfl
 have s7:shl8 (u / 256) ((u:Int) % 256) = u:=by unfold shl8; omega
 simp only [fl8,List.foldl_cons,List.foldl_nil]
 rw [s0,s1,s2,s3,s4,s5,s6,s7]
theorem fbit_lt (x:Nat) (h:x < 18446744073709551616):fbit x < 18446744073709551616:=by
 unfold fbit; split <;> omega
theorem fbit_nan (x:Nat):¬ (nanB (fbit x) = true∧fbit x ≠ 9221120237041090560):=by
 rintro ⟨N,Y⟩
 by_cases h:nanB x = true
 ·exact Y (if_pos h)
 ·rw [show fbit x = x from if_neg h] at N; exact h N
theorem scan_putR (l r:List Int) (k:Nat):∀ (f x i acc:Nat),f = 10 - i→i ≤ 9→l.drop (k + i) = putU x ++ r→acc + x * 128 ^ i < 18446744073709551616→(0 < i→0 < x) →
  scan l k f i acc = some (acc + x * 128 ^ i,k + i + (putU x).length)
 | 0,x,i,acc,hf,hi,_,_,_=>by omega
 | f + 1,x,i,acc,hf,hi,hd,xJ,qJ=>by
  have h9:i = 9→x ≤ 1:=by
   intro e; subst e
   have e9:(128:Nat) ^ 9 = 9223372036854775808:=by decide
   rw [e9] at xJ; omega
  by_cases hx:x < 128
  ·rw [ec hx] at hd ⊢
   obtain ⟨N,Y,_⟩:=drop_head hd
   rw [scan,if_neg (by omega),Y,if_neg (by omega),if_pos (by omega)]
   have e:((x:Int) % 128).toNat = x:=by omega
   rw [e]; rfl
  ·rw [eJ hx] at hd ⊢
   rw [List.cons_append] at hd
   obtain ⟨N,Y,h3⟩:=drop_head hd
   rw [scan,if_neg (by omega),Y,if_neg (by omega),if_neg (by omega)]
   have e:(((x:Int) % 128 + 128) % 128).toNat = x % 128:=by omega
   have e2:acc + x % 128 * 128 ^ i + x / 128 * 128 ^ (i + 1) = acc + x * 128 ^ i:=by
    rw [Nat.pow_succ,Nat.mul_comm (128 ^ i) 128,← Nat.mul_assoc,Nat.add_assoc,← Nat.add_mul,Nat.mod_add_div']
   rw [e,scan_putR l r k f (x / 128) (i + 1) _ (by omega) (by omega) h3 (by rw [e2]; exact xJ) (by omega),e2]
   simp only [List.length_cons]
   congr 2; omega
theorem getU_putR (a r:List Int) (u:Nat) (h:u < 18446744073709551616):getU (a ++ (putU u ++ r)) a.length = some (u,a.length + (putU u).length):=by
 have:=scan_putR (a ++ (putU u ++ r)) r a.length 10 u 0 0 rfl (by omega) (by simp) (by omega) (by omega)
 simpa [getU] using this
theorem floatA_wr (a r:List Int) (x:Nat) (h:x < 18446744073709551616):bQ (a ++ (fl8 (fbit x) ++ r)) a.length = some (fbit x,a.length + 8):=by
 have E:bj (a ++ (fl8 (fbit x) ++ r)) a.length 8 = fbit x:=by
  unfold bj
  rw [List.drop_left,List.take_left' (fl8_len _)]
  exact fl8_back _ (fbit_lt x h)
 rw [floatA_yes (by simp [fl8_len]) (by rw [E]; exact fbit_nan x),E]
theorem byte_push (l:List UInt8):∀ s:ByteArray,((l.map fun b=>(b.toNat:Int)).foldl (fun r n=>r.push (UInt8.ofNat n.toNat)) s).data.toList = s.data.toList ++ l:=by
 induction l with
 | nil=>intro s; simp
 | cons b l ih =>
  intro s
  rw [List.map_cons,List.foldl_cons,ih]
  simp [ByteArray.push]
theorem strB_bl (s:ByteArray):strB (bl s) = s:=by
 have h:=byte_push s.data.toList ByteArray.empty
 unfold strB bl
 generalize List.foldl _ _ _ = t at h ⊢
 obtain ⟨⟨d⟩⟩:=t
 obtain ⟨⟨e⟩⟩:=s
 simp only at h
 have:d = e:=h
 rw [this]
theorem textA_wr (a r:List Int) (s:ByteArray):textA (a ++ (bG s ++ r)) a.length = some (cutB s,a.length + (bG s).length):=by
 have hc:=ej s
 have hz:=zz_lt ((cutB s).size:Int) (by omega) (by omega)
 have hu:=getU_putR a (bl (cutB s) ++ r) (zz (cutB s).size) hz
 have e:a ++ (bG s ++ r) = a ++ (putU (zz (cutB s).size) ++ (bl (cutB s) ++ r)):=by unfold bG; simp
 rw [e,textA_yes hu (by
  rw [unz_zz]
  simp only [yQ,bl_len]
  omega),unz_zz]
 have e2:(a ++ (putU (zz (cutB s).size) ++ (bl (cutB s) ++ r))).drop (a.length + (putU (zz (cutB s).size)).length) = bl (cutB s) ++ r:=by
  rw [← List.append_assoc,List.drop_left' (by simp)]
 rw [e2,Int.toNat_natCast,List.take_left' (bl_len _),strB_bl]
 simp only [bG,yQ,bl_len]
 congr 2; omega
def bkF (e:Ev) (o:Nat):Value:=if o = 7 then yk (fbit e.cmd.p) else if o = 8 then yl (cutB e.cmd.g) else I (e.num o)
theorem rdF_wr (e:Ev) (he:e.fit) (o:Nat) (a r:List Int):rdF o (a ++ (wrF e o ++ r)) a.length = some (bkF e o,a.length + (wrF e o).length):=by
 unfold rdF wrF bkF
 split
 ·rw [floatA_wr a r _ he.p,fl8_len]; rfl
 ·split
  ·rw [textA_wr]; rfl
  ·rw [getU_putR a r _ (zz_lt _ (he.n o).1 (he.n o).2)]
   simp only [Option.map_some,unz_zz]
theorem rdEs_wr (e:Ev) (he:e.fit):∀ (os:List Nat) (x:Ev) (a r:List Int),rdEs os x (a ++ (os.flatMap (wrF e) ++ r)) a.length = some (os.foldl (fun x o=>x.put o (bkF e o)) x,a.length + (os.flatMap (wrF e)).length)
 | [],x,a,r=>by simp [rdEs]
 | o :: os,x,a,r=>by
  have N:=rdF_wr e he o a (os.flatMap (wrF e) ++ r)
  have Y:=rdEs_wr e he os (x.put o (bkF e o)) (a ++ wrF e o) r
  rw [List.flatMap_cons,List.append_assoc,rdEs_some N]
  rw [List.append_assoc,yQ] at Y
  rw [Y,List.foldl_cons,yQ,Nat.add_assoc]
def bkE (e:Ev):Ev:=(shF e.kind).foldl (fun x o=>x.put o (bkF e o)) (ev0 e.kind)
theorem evA_wr (e:Ev) (he:e.fit) (hk:shF e.kind ≠ []) (r:List Int):evA (evL e ++ r) 0 = some (bkE e,(evL e).length):=by
 have h:=rdEs_wr e he (shF e.kind) (ev0 e.kind) [e.kind] r
 have e1:(evL e ++ r).getD 0 0 = e.kind:=rfl
 rw [evA_yes (by simp [evL]) (by rw [e1]; exact hk),e1]
 have e2:evL e ++ r = [e.kind] ++ ((shF e.kind).flatMap (wrF e) ++ r):=by simp [evL]
 rw [e2,show (0:Nat) + 1 = [e.kind].length from rfl,h]
 simp [bkE,evL]; omega
theorem evL_len (e:Ev) (he:e.fit):0 < (evL e).length∧(evL e).length ≤ 208:=by
 have N:=flat_le e he (shF e.kind)
 have Y:=shF_len e.kind
 unfold evL
 rw [List.length_cons]
 omega
theorem textL_bts (s:ByteArray):Bts (bG s):=by
 intro x hx
 rcases List.mem_append.1 hx with h | h
 ·exact putU_bts _ x h
 ·obtain ⟨b,_,rfl⟩:=List.mem_map.1 h
  have:=b.toNat_lt
  omega
theorem evL_bts (e:Ev) (hk:1 ≤ e.kind∧e.kind ≤ 9):Bts (evL e):=by
 intro x hx
 rcases List.mem_cons.1 hx with rfl | h
 ·omega
 ·obtain ⟨o,_,Z⟩:=List.mem_flatMap.1 h
  unfold wrF at Z
  split at Z
  ·exact fl8_bts _ x Z
  ·split at Z
   ·exact textL_bts _ x Z
   ·exact putU_bts _ x Z
theorem shF_ne (k:Int):shF k ≠ [] ↔ 1 ≤ k∧k ≤ 9:=by
 unfold shF
 repeat' split
 all_goals simp
 all_goals omega
def sameE (a b:Ev):Bool:=(a.kind == b.kind) && ((a.id == b.id) && ((a.other == b.other) && ((a.qty == b.qty) && ((a.price == b.price) && ((a.reason == b.reason) && ((a.cmd.k == b.cmd.k) && ((a.cmd.s == b.cmd.s) && ((a.cmd.t == b.cmd.t) && ((a.cmd.l == b.cmd.l) && ((a.cmd.q == b.cmd.q) && ((a.cmd.i == b.cmd.i) && ((fbit a.cmd.p == fbit b.cmd.p) && decide (a.cmd.g.toList = b.cmd.g.toList)))))))))))))
def plainC (c:Cm):Bool:=(c.k == 0) && ((c.s == 0) && ((c.t == 0) && ((c.l == 0) && ((c.q == 0) && ((c.i == 0) && ((fbit c.p == 0) && decide (c.g.toList = [])))))))
def fldK (k:Int):List Bool:=if k = 1 then [true,false,false,false,false] else if k = 2 then [false,false,false,false,true] else if k = 3 then [true,true,true,true,false] else if k = 4 ∨ k = 5 ∨ k = 6 ∨ k = 7 ∨ k = 9 then [true,false,true,false,false] else if k = 8 then [false,false,true,false,false] else []
def numsE (e:Ev):List Int:=[e.id,e.other,e.qty,e.price,e.reason]
def restK (fs:List Bool) (ns:List Int):Bool:=(List.range 5).all fun i=>fs.getD i false || (ns.getD i 0 == 0)
def okE (e:Ev):Bool:=if fldK e.kind = [] then false else if restK (fldK e.kind) (numsE e) = false then false else
 if e.kind = 1 then (e.cmd.k == 1) && ((e.cmd.i == 0) && decide (e.cmd.g.size ≤ 13)) else if e.kind = 2 then decide (e.cmd.g.size ≤ 13) else plainC e.cmd
theorem fbit_two (x:Nat):fbit (fbit x) = fbit x:=by
 unfold fbit
 repeat' split
 all_goals first | rfl | (exfalso; simp_all)
theorem fbit_none:fbit 0 = 0:=by
 have h:nanB 0 = false:=by decide +kernel
 unfold fbit
 rw [h]
 rfl
theorem cutB_same (s:ByteArray):(cutB s).toList = s.toList ↔ s.size ≤ 13:=by
 by_cases h:s.size ≤ 12
 ·rw [show cutB s = s from if_neg (by omega)]
  exact ⟨fun _=>by omega,fun _=>rfl⟩
 ·by_cases N:s.size = 13
  ·rw [cutB_one s N]
   exact ⟨fun _=>by omega,fun _=>rfl⟩
  ·refine ⟨fun e=>?_,fun e=>by omega⟩
   rw [Go.ByteArray.toList_eq,Go.ByteArray.toList_eq] at e
   have e2:=congrArg List.length e
   have h3:=ej s
   have h4:(cutB s).data.toList.length = (cutB s).size:=rfl
   have h5:s.data.toList.length = s.size:=rfl
   omega
theorem okE_eq (e:Ev) (hk:1 ≤ e.kind∧e.kind ≤ 9):sameE (bkE e) e = okE e:=by
 obtain ⟨xn,⟨ck,A,ct,F,cq,ci,O,cg⟩,id,xj,qty,xk,xi⟩:=e
 simp only at hk
 rcases (show xn = 1 ∨ xn = 2 ∨ xn = 3 ∨ xn = 4 ∨ xn = 5 ∨ xn = 6 ∨ xn = 7 ∨ xn = 8 ∨ xn = 9 by omega) with rfl | rfl | rfl | rfl | rfl | rfl | rfl | rfl | rfl
 all_goals
  rw [Bool.eq_iff_iff]
  simp [sameE,okE,fldK,restK,numsE,fbit_two,cutB_same,List.range_succ,bkE,shF,ev0,shC,bkF,Ev.put,Ev.num,plainC,fbit_none]
  try grind
end Go.Proofs.YtnphbkgfjanmgaaGreatDoor
