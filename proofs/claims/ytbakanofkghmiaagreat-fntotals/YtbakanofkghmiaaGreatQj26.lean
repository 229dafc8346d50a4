/-
  The orders of a day taken out of a row, by the program's library: proved by walking the function.
-/
import Derived.Test.YtbakanofkghmiaaGreatQj25
set_option linter.unusedVariables false
set_option maxHeartbeats 6400000
set_option maxRecDepth 100000
namespace Go.Proofs.YtbakanofkghmiaaGreat
open Go.RowKit
def ndy (o:Od):Bool:=!(o.life == 1)
theorem fdyF_spec:∀ (l:List Od) (k:Nat),(fdyF l k = -1∧l.filter ndy = l) ∨ ∃ i o,fdyF l k = ((k + i:Nat):Int)∧l[i]? = some o∧o.life = 1∧(l.take i).filter ndy = l.take i
 | [],k=>.inl ⟨rfl,rfl⟩
 | o :: r,k=>by
  by_cases h:o.life = 1
  ·exact .inr ⟨0,o,by rw [fdyF,if_pos h]; rfl,rfl,h,rfl⟩
  ·have hn:ndy o = true:=by simp [ndy,h]
   rcases fdyF_spec r (k + 1) with ⟨Q,N⟩ | ⟨i,o',Q,N,h3,h4⟩
   ·exact .inl ⟨by rw [fdyF,if_neg h,Q],by rw [List.filter_cons_of_pos hn,N]⟩
   ·exact .inr ⟨i + 1,o',by rw [fdyF,if_neg h,Q]; congr 1; omega,N,h3,by rw [yU,List.filter_cons_of_pos hn,h4]⟩
theorem take_day {l:List Od} {j:Nat} {o:Od} (h:l[j]? = some o) (hd:o.life = 1):(l.take (j + 1)).filter ndy = (l.take j).filter ndy:=by
 rw [List.take_add_one,h,List.filter_append]
 simp [ndy,hd]
theorem take_stay {l:List Od} {j:Nat} {o:Od} (h:l[j]? = some o) (hd:o.life ≠ 1):(l.take (j + 1)).filter ndy = (l.take j).filter ndy ++ [o]:=by
 rw [List.take_add_one,h,List.filter_append]
 simp [ndy,hd]
theorem oRow_put {W:World} {B g n A k:Nat} {m:List Od} {c x:Od} (h:ORow W B (.slice (some (J g 0)) n A) m) (hn:m.length = n) (hk:m[k]? = some c) :
  ORow (W.setCells g (k * 6) x.vs) B (.slice (some (J g 0)) n A) (m.set k x)∧W.grownBy (W.setCells g (k * 6) x.vs) (some g):=by
 have kN:=(yH.1 hk).1
 have one:∀ (W:World) (m:List Od) (c d:Od) (j:Nat) (u:Value),ORow W B (.slice (some (J g 0)) n A) m→m.length = n→m[k]? = some c→j < 6→d.vs = c.vs.set j u →
   ORow (W.setCell (J g (k * 6 + j)) u) B (.slice (some (J g 0)) n A) (m.set k d)∧W.grownBy (W.setCell (J g (k * 6 + j)) u) (some g):=by
  intro W m c d j u h hn hk R hd
  subst hn
  have s:=World.ownsRow.stored h (k * 6 + j) u
  refine ⟨?_,s.2⟩
  have e:=flat_set Od.len m k j c d u hk R hd
  show World.ownsRow _ _ _ _ _ (m.set k _).length _
  rw [List.length_set,← e]; exact s.1
 have gs:∀ (m:List Od) (d:Od),m.length = n→k < m.length→(m.set k d)[k]? = some d:=fun m d _ hk=>List.getElem?_set_self hk
 obtain ⟨xi,xs,xt,xl,xf,xg⟩:=x
 obtain ⟨ci,cs,ct,cl,cf,cg⟩:=c
 have a0:=one W m ⟨ci,cs,ct,cl,cf,cg⟩ ⟨xi,cs,ct,cl,cf,cg⟩ 0 (H xi) h hn hk (by omega) rfl
 have a1:=one _ _ ⟨xi,cs,ct,cl,cf,cg⟩ ⟨xi,xs,ct,cl,cf,cg⟩ 1 (H xs) a0.1 (by simp [hn]) (gs m _ hn kN) (by omega) rfl
 rw [List.set_set] at a1
 have a2:=one _ _ ⟨xi,xs,ct,cl,cf,cg⟩ ⟨xi,xs,xt,cl,cf,cg⟩ 2 (H xt) a1.1 (by simp [hn]) (gs m _ hn kN) (by omega) rfl
 rw [List.set_set] at a2
 have a3:=one _ _ ⟨xi,xs,xt,cl,cf,cg⟩ ⟨xi,xs,xt,xl,cf,cg⟩ 3 (H xl) a2.1 (by simp [hn]) (gs m _ hn kN) (by omega) rfl
 rw [List.set_set] at a3
 have a4:=one _ _ ⟨xi,xs,xt,xl,cf,cg⟩ ⟨xi,xs,xt,xl,xf,cg⟩ 4 (H xf) a3.1 (by simp [hn]) (gs m _ hn kN) (by omega) rfl
 rw [List.set_set] at a4
 have a5:=one _ _ ⟨xi,xs,xt,xl,xf,cg⟩ ⟨xi,xs,xt,xl,xf,xg⟩ 5 (yk xg) a4.1 (by simp [hn]) (gs m _ hn kN) (by omega) rfl
 rw [List.set_set] at a5
 exact ⟨a5.1,a0.2.trans (a1.2.trans (a2.2.trans (a3.2.trans (a4.2.trans a5.2))))⟩
theorem clear_rowN {P:Program} (w:World) (T F e:TypeId) (i:TypeInfo) (z:Value) (ht:P.underlying T = some (.slice e)) (hi:P.info? e = some i) (hz:i.zero = some z) (g o m c:Nat) (xu:Array Value) (hg:w.heap[g]? = some (.cells xu e (0,0)))
  (ky:o + (Builtin.zeroCells z.cells (m + 1)).toList.length ≤ xu.size) (Q:∀ v ∈ (Builtin.zeroCells z.cells (m + 1)).toList,v.oneCell' = true) :
  (Builtin.clear_ #[T] F #[.slice (some (J g o)) (m + 1) c]).run P w = .ok (.tuple #[]) (w.setRow g (xu.toList.take o ++ (Builtin.zeroCells z.cells (m + 1)).toList ++ xu.toList.drop (o + (Builtin.zeroCells z.cells (m + 1)).toList.length)).toArray):=by
 have qr:=run_storeCells_at P g o e (Builtin.zeroCells z.cells (m + 1)).toList 0 xu w hg (by simpa using ky) Q
 simp only [Nat.add_zero] at qr
 simp [Builtin.clear_,run_underlying ht,zeroValue,typeInfo,hi,hz,qr]
theorem zero_len (m:Nat):(Builtin.zeroCells (Value.cells (.agg (yw 0 0 0 0 0 ⟨#[]⟩).toArray)) m).toList.length = m * 6:=by
 simp [Builtin.zeroCells,Value.cells]
theorem zero_one (m:Nat):∀ v ∈ (Builtin.zeroCells (Value.cells (.agg (yw 0 0 0 0 0 ⟨#[]⟩).toArray)) m).toList,v.oneCell' = true:=by
 intro v hv
 simp only [Builtin.zeroCells,Value.cells,Array.toList_map,List.mem_map] at hv
 obtain ⟨i,_,rfl⟩:=hv
 show ((yw 0 0 0 0 0 ⟨#[]⟩).toArray[i % 6]!).oneCell' = true
 rcases (by omega:i % 6 = 0 ∨ i % 6 = 1 ∨ i % 6 = 2 ∨ i % 6 = 3 ∨ i % 6 = 4 ∨ i % 6 = 5) with e | e | e | e | e | e <;> rw [e] <;> rfl
theorem drop_eq {l m:List Od} {j:Nat} (h:m.drop j = l.drop j):m[j]? = l[j]?:=by
 have:=congrArg (·[0]?) h
 simpa using this
theorem drop_more {l m:List Od} {j:Nat} (h:m.drop j = l.drop j):m.drop (j + 1) = l.drop (j + 1):=by
 have:=congrArg (List.drop 1) h
 simpa using this
theorem deleteDay_any (g A B:Nat) (l:List Od) (w:World) (hn:l.length ≤ 1000) (Z:ORow w B (.slice (some (J g 0)) l.length A) l) :
  Calls Tryz.prog 119 #[.slice (some (J g 0)) l.length A,.func (.func 118) #[] #[]] w fun e w'=>e = ym (.slice (some (J g 0)) (l.filter ndy).length A)∧ORow w' B (.slice (some (J g 0)) (l.filter ndy).length A) (l.filter ndy)∧w.grownBy w' (some g):=by
 obtain ⟨i0,uG,uF,uI,uT⟩:=info_parts Tryz.infoOrder
 have HO:=Y Z
 have hgw:g < w.heap.size:=(Z.lt g rfl).2
 clear Z
 go_enter Tryz.func119,Tryz.ntmps119
 go_wp2_with fail
 refine (indexDay_any _ l w (zN (U HO) (by omega))).mono ?_
 rcases fdyF_spec l 0 with ⟨Q,N⟩ | ⟨i,o,Q,N,h3,h4⟩
 ·have hf:fdy l = -1:=Q
  rw [hf]
  rintro e w2 ⟨rfl,xX⟩
  have vU:=Y (zm (U HO) xX)
  have uP:Hid (w.grownBy w2 (some g)):=aW xX tg
  have HF:=Y N
  clear xX Q N hf
  go_wp2_with fail
  go_ret
  rw [U HF]
  exact ⟨rfl,U vU,U uP⟩
 ·have hf:fdy l = (i:Int):=by rw [fdy,Q]; congr 1; omega
  rw [hf]
  rintro e w2 ⟨rfl,xX⟩
  have hil:=(yH.1 N).1
  have uK:Hid (∃ m:List Od,m.length = l.length∧ORow w2 B (.slice (some (J g 0)) l.length A) m∧m.take i = (l.take (i + 1)).filter ndy∧m.drop (i + 1) = l.drop (i + 1)∧w.grownBy w2 (some g)):=⟨l,rfl,zm (U HO) xX,by rw [take_day N h3,h4],rfl,aW xX tg⟩
  have HIL:Hid (((l.take (i + 1)).filter ndy).length = i):=by show _ = _; rw [take_day N h3,h4,List.length_take]; omega
  have ph:(i:Int) ≠ -1:=by omega
  have hi1':((i:Int) == -1) = false:=by rw [xe]; exact ph
  clear xX Q N h3 h4 hf
  go_wp2_with fail
  go_loopw [5,6] (fun iv jv wr=>∃ (k j:Nat) (m:List Od),j ≤ l.length∧k < j∧iv = H k∧jv = H j∧Hid (m.length = l.length∧ORow wr B (.slice (some (J g 0)) l.length A) m∧m.take k = (l.take j).filter ndy∧((l.take j).filter ndy).length = k∧m.drop j = l.drop j∧w.grownBy wr (some g))) (fun _ jv _=>l.length - (intOf jv).toNat)
  case atStart =>
   obtain ⟨m,a1,a2,a3,a4,a5⟩:=U uK
   exact ⟨i,i + 1,m,by omega,by omega,rfl,by go_num,⟨a1,a2,a3,U HIL,a4,a5⟩⟩
  case round =>
   obtain ⟨k,j,m,R,hkj,rfl,rfl,ux⟩:=hrel
   obtain ⟨a1,a2,a3,a4,a5,a6⟩:=U ux
   by_cases xL:j < l.length
   ·obtain ⟨o,hjo⟩:∃ o,l[j]? = some o:=⟨_,yI xL⟩
    have hmo:m[j]? = some o:=(drop_eq a5).trans hjo
    obtain ⟨c,vd⟩:∃ c,m[k]? = some c:=⟨_,yI (by omega)⟩
    obtain ⟨g0,g1,g2,g3,g4,g5⟩:=zF (row_hereE a2 (by omega) hmo).1
    have uy:(j:Int) < l.length:=by omega
    have jg:(0:Int) ≤ j:=by omega
    have uc:g < wr.heap.size:=(a2.lt g rfl).2
    have HJO:=Y hjo
    have jO:=Y vd
    have jb:=eE wr (E (yw o.id o.side o.ticks o.left o.life o.tag).toArray 49)
    have uA:=Y jb
    have HBR:Hid (World.rangeAt (wr.alloc (E (yw o.id o.side o.ticks o.left o.life o.tag).toArray 49)) wr.heap.size 0 o.vs):=zi wr o.vs _
    have hsx:wr.heap.size < (wr.alloc (E (yw o.id o.side o.ticks o.left o.life o.tag).toArray 49)).heap.size:=by rw [zh]; omega
    clear hjo hmo vd jb a1 a2 a3 a4 a5 a6
    go_wp2_with fail
    generalize (wr.alloc (E (yw o.id o.side o.ticks o.left o.life o.tag).toArray 49)) = yb at uA HBR hsx ⊢
    refine (ep o yb).mono ?_
    rintro e w3 ⟨rfl,um⟩
    have xQ:=Y (eH (U uA) um)
    have pe:=zb (U HBR) um hsx
    obtain ⟨x0,x1,x2,x3,x4,x5⟩:=yD pe
    clear um pe g0 g1 g2 g3 g4 g5
    obtain ⟨a1,a2,a3,a4,a5,a6⟩:=U ux
    have a2':=zm a2 (U xQ)
    have HA2:=Y a2'
    have qh:Hid (w.grownBy w3 (some g)):=a6.trans (aW (U xQ) tg)
    have HA:Hid (m.length = l.length∧m.take k = (l.take j).filter ndy∧((l.take j).filter ndy).length = k∧m.drop j = l.drop j):=⟨a1,a3,a4,a5⟩
    have pf:=row_hereE a2' (by omega) (U jO)
    by_cases hd:o.life = 1
    ·have X:(o.life == 1) = true:=by simpa using hd
     have HN:Hid (m.length = l.length∧ORow w3 B (.slice (some (J g 0)) l.length A) m∧m.take k = (l.take (j + 1)).filter ndy∧((l.take (j + 1)).filter ndy).length = k∧m.drop (j + 1) = l.drop (j + 1)∧w.grownBy w3 (some g)):=by
      rw [take_day (U HJO) hd]
      exact ⟨a1,a2',a3,a4,drop_more a5,U qh⟩
     clear hd a1 a2 a3 a4 a5 a6 a2' pf
     go_wp2_with fail
     go_roundw
     case rel=>exact ⟨k,j + 1,m,by omega,by omega,rfl,by go_num,U HN⟩
     case measure=>simp [intOf]; omega
    ·have X:(o.life == 1) = false:=by rw [xe]; exact hd
     have hput:=oRow_put (x:=o) a2' a1 (U jO)
     have HN:Hid ((m.set k o).length = l.length∧ORow (w3.setCells g (k * 6) o.vs) B (.slice (some (J g 0)) l.length A) (m.set k o)∧(m.set k o).take (k + 1) = (l.take (j + 1)).filter ndy∧((l.take (j + 1)).filter ndy).length = k + 1∧(m.set k o).drop (j + 1) = l.drop (j + 1)∧w.grownBy (w3.setCells g (k * 6) o.vs) (some g)):=by
      rw [take_stay (U HJO) hd]
      refine ⟨by rw [List.length_set]; exact a1,hput.1,?_,by rw [yQ,a4]; rfl,?_,(U qh).trans hput.2⟩
      ·rw [List.take_add_one,List.getElem?_set_self (by omega),List.take_set_of_le tg,a3]; rfl
      ·rw [List.drop_set_of_lt (by omega)]; exact drop_more a5
     obtain ⟨p0,p1,p2,p3,p4,p5⟩:=zF pf.1
     have q0:w3.frozen? (J g (k * 6)) = false:=pf.2 0 (by omega)
     have q1:w3.frozen? (J g (k * 6 + 1)) = false:=pf.2 1 (by omega)
     have q2:w3.frozen? (J g (k * 6 + 2)) = false:=pf.2 2 (by omega)
     have q3:w3.frozen? (J g (k * 6 + 3)) = false:=pf.2 3 (by omega)
     have q4:w3.frozen? (J g (k * 6 + 4)) = false:=pf.2 4 (by omega)
     have q5:w3.frozen? (J g (k * 6 + 5)) = false:=pf.2 5 (by omega)
     have kN:(k:Int) < l.length:=by omega
     have hk0:(0:Int) ≤ k:=by omega
     clear hd a1 a2 a3 a4 a5 a6 a2' pf hput
     go_wp2_with fail
     go_roundw
     case rel=>exact ⟨k + 1,j + 1,m.set k o,by omega,by omega,by go_num,by go_num,U HN⟩
     case measure=>simp [intOf]; omega
   ·obtain rfl:j = l.length:=by omega
    rw [xa tg] at a3 a4
    obtain ⟨mm,hmm⟩:∃ mm,l.length - k = mm + 1:=⟨l.length - k - 1,by omega⟩
    rcases a2.2 with ⟨hbad,_⟩ | ⟨g',pB,xu,hv,hBg,kL,vW,hmx,qW,oS⟩
    ·cases hbad
    simp only [Value.slice.injEq,Option.some.injEq,Addr.mk.injEq,and_true] at hv
    obtain ⟨rfl,-,rfl⟩:=hv
    have hzl:=zero_len (mm + 1)
    have ky:k * 6 + (mm + 1) * 6 ≤ xu.size:=by rw [qW]; omega
    have xp:∀ (F:TypeId) (c:Nat),(Builtin.clear_ #[26] F #[.slice (some (J g (k * 6))) (l.length - k) c]).run Tryz.prog wr = .ok (.tuple #[]) (wr.setRow g (xu.toList.take (k * 6) ++ (Builtin.zeroCells (Value.cells (.agg (yw 0 0 0 0 0 ⟨#[]⟩).toArray)) (mm + 1)).toList ++ xu.toList.drop (k * 6 + (mm + 1) * 6)).toArray):=fun F c=>by
     rw [hmm]
     have:=clear_rowN wr 26 F 49 i0 _ Tryz.underlying26 uG uF g (k * 6) mm c xu kL (by rw [hzl]; exact ky) (zero_one _)
     rw [hzl] at this
     exact this
    generalize hZ:(Builtin.zeroCells (Value.cells (.agg (yw 0 0 0 0 0 ⟨#[]⟩).toArray)) (mm + 1)).toList = ho at hzl xp
    have hl2:(xu.toList.take (k * 6) ++ ho ++ xu.toList.drop (k * 6 + (mm + 1) * 6)).length = A * 6:=by
     have xp:xu.toList.length = A * 6:=by simpa using qW
     rw [yQ,yQ,hzl,List.length_take,List.length_drop,xp]; rw [qW] at ky; omega
    have jr:(xu.toList.take (k * 6) ++ ho ++ xu.toList.drop (k * 6 + (mm + 1) * 6)).take (k * 6) = (l.filter ndy).flatMap Od.vs:=by
     have xp:xu.toList.length = A * 6:=by simpa using qW
     have vd:(xu.toList.take (k * 6)).length = k * 6:=by rw [List.length_take,xp]; rw [qW] at ky; omega
     rw [List.append_assoc,List.take_append_of_le_length (by omega),xa (by omega)]
     have h:=congrArg (List.take (k * 6)) oS
     rw [List.take_take,show min (k * 6) (m.length * 6) = k * 6 by omega] at h
     rw [h,← a3]
     conv=>lhs; rw [← List.take_append_drop k m,List.flatMap_append]
     rw [List.take_append_of_le_length (by rw [zK Od.len,List.length_take]; omega),xa (by rw [zK Od.len,List.length_take]; omega)]
    have HX2:=Y (setRow_heap wr g xu (xu.toList.take (k * 6) ++ ho ++ xu.toList.drop (k * 6 + (mm + 1) * 6)).toArray 49 (0,0) kL)
    have uP:Hid (w.grownBy (wr.setRow g (xu.toList.take (k * 6) ++ ho ++ xu.toList.drop (k * 6 + (mm + 1) * 6)).toArray) (some g)):=a6.trans ⟨rfl,rfl,rfl,by simp,fun q hq xB=>setRow_other wr g q _ (fun e=>xB (by rw [e]))⟩
    generalize (xu.toList.take (k * 6) ++ ho ++ xu.toList.drop (k * 6 + (mm + 1) * 6)) = C2 at hl2 jr xp HX2 uP
    have aj:=Y a4
    have HL2:=Y hl2
    have uL:=Y jr
    have HMM:=Y hmm
    have k1:¬ A = k:=by omega
    have k2:(k:Int) ≤ l.length:=by omega
    have k3:(0:Int) ≤ k:=by omega
    have k4:(l.length:Int) ≤ A:=by omega
    have k5:(k:Int) ≤ A:=by omega
    have k6:¬ (l.length:Int) < l.length:=by omega
    have HB:=Y (And.intro hBg (And.intro hmx vW))
    clear hzl hZ hl2 jr hmm ky oS qW kL a1 a2 a3 a4 a5 a6 xL R ux uK HIL
    go_wp2_with fail
    go_ret
    have e:=U aj
    refine ⟨by rw [e]; rfl,⟨by rw [zK Od.len],.inr ⟨g,A,C2.toArray,by rw [e],(U HB).1,U HX2,by rw [e]; omega,(U HB).2.1,by simpa using U HL2,by rw [e]; simpa using U uL⟩⟩,U uP⟩
def dyB (o:Od):Bool:=o.life == 1
def expE (o:Od):Ev:=⟨9,zCm,o.id,0,o.left,0,0⟩
theorem take_dy {l:List Od} {j:Nat} {o:Od} (h:l[j]? = some o) (hd:o.life = 1):(l.take (j + 1)).filter dyB = (l.take j).filter dyB ++ [o]:=by
 rw [List.take_add_one,h,List.filter_append]
 simp [dyB,hd]
theorem take_no {l:List Od} {j:Nat} {o:Od} (h:l[j]? = some o) (hd:o.life ≠ 1):(l.take (j + 1)).filter dyB = (l.take j).filter dyB:=by
 rw [List.take_add_one,h,List.filter_append]
 simp [dyB,hd]
theorem ev_more (xW:List Od) (ts:List Ev) (n:Int) {k:Nat} {o:Od} (h:xW[k]? = some o):ts ++ [⟨8,zCm,0,0,n,0,0⟩] ++ (xW.take (k + 1)).map expE = (ts ++ [⟨8,zCm,0,0,n,0,0⟩] ++ (xW.take k).map expE) ++ [expE o]:=by
 rw [List.take_add_one,h]; simp
theorem deleteDay_nil (w:World) :
  Calls Tryz.prog 119 #[.slice none 0 0,.func (.func 118) #[] #[]] w fun e w'=>e = ym (.slice none 0 0)∧yn w w':=by
 go_enter Tryz.func119,Tryz.ntmps119
 go_wp2_with fail
 refine (indexDay_any (.slice none 0 0) [] w ⟨none,0,rfl,by simp,fun h=>absurd rfl h⟩).mono ?_
 rintro e w2 ⟨rfl,xX⟩
 have hf:fdy [] = -1:=rfl
 rw [hf]
 have HB:=Y xX
 clear xX
 go_wp2_with fail
 go_ret
 exact ⟨rfl,U HB⟩
theorem deleteDay_row (B:Nat) (v:Value) (l:List Od) (w:World) (hn:l.length ≤ 1000) (Z:ORow w B v l) :
  Calls Tryz.prog 119 #[v,.func (.func 118) #[] #[]] w fun e w'=>∃ v',e = ym v'∧ORow w' B v' (l.filter ndy)∧w.grownBy w' v.ownBlock∧v'.oneCell' = true:=by
 rcases Z.2 with ⟨rfl,h0⟩ | ⟨g,A,xu,rfl,_⟩
 ·obtain rfl:=List.length_eq_zero_iff.1 h0
  refine (deleteDay_nil w).mono ?_
  rintro e w2 ⟨rfl,xX⟩
  exact ⟨_,rfl,World.ownsRow_nil _ _ _ _,aW xX tg,rfl⟩
 ·refine (deleteDay_any g A B l w hn Z).mono ?_
  rintro e w2 ⟨rfl,ho2,vM⟩
  exact ⟨_,rfl,ho2,vM,rfl⟩
theorem endDayE_any {mb B Bo:Nat} {gv:Value} {gs:List Value} {gl:List (List Ev)} {next:Int} {vq:Value} {l:List Od} {t:Tot} {vo:Value} {ts:List Ev} (w:World) (h:EnS mb B Bo w gv gs gl next vq l t vo ts) (hl:l.length ≤ 100) (hn:ts.length ≤ 100) :
  Calls Tryz.prog 70 #[I mb 0] w fun r w'=>r = ym (.tuple #[])∧(∃ vu qu,EnS mb B Bo w' gv gs gl next vu (l.filter ndy) t qu (ts ++ [⟨8,zCm,0,0,((l.filter dyB).length:Nat),0,0⟩] ++ (l.filter dyB).map expE))∧KeptBut mb B w w':=by
 obtain ⟨i0,uG,uF,uI,uT⟩:=info_parts Tryz.infoOrder
 have HE:=Y h
 have qE:=h.lt
 have pF:B ≤ w.heap.size:=yO h.bo h.le
 obtain ⟨a,A,hvq,xG,hc⟩:=zN h.orow (by omega)
 have xr:∀ (k:Nat) (c:Od),l[k]? = some c→∃ b off,a = some (J b off)∧b < w.heap.size∧w.rangeAt b (off + k * 6) c.vs:=by
  intro k c hk
  obtain ⟨b,off,Q,N,h3⟩:=hc (by intro h; rw [h] at hk; simp at hk)
  exact ⟨b,off,Q,N,h3 k c hk⟩
 have HC:=Y xr
 have z2:w.cell? (J mb 2) = some (.slice a l.length A):=by rw [← hvq]; exact h.cells 2 _ rfl
 have HVQ:=Y hvq
 clear xr hc xG h hvq
 go_enter Tryz.func70,Tryz.ntmps70
 refine eI fun hR xv=>?_
 go_wp2_with fail
 refine U xv _ _ ?_
 clear xv
 refine eI fun hR xv=>?_
 go_wp2_with fail
 clear z2
 go_loopw [2,14] (fun gov iv wr=>∃ (k:Nat),k ≤ l.length∧iv = H k∧Hid (ORow wr w.heap.size gov ((l.take k).filter dyB)∧yn w wr)) (fun _ iv _=>l.length - (intOf iv).toNat)
 case atStart=>exact ⟨0,Nat.zero_le _,rfl,⟨World.ownsRow_nil _ _ _ _,Below.refl _ _⟩⟩
 case round =>
  obtain ⟨k,hk,rfl,ux⟩:=hrel
  by_cases xL:k < l.length
  ·obtain ⟨c,vd⟩:∃ c,l[k]? = some c:=⟨_,yI xL⟩
   obtain ⟨b,off,rfl,X,xp⟩:=U HC k c vd
   obtain ⟨g0,g1,g2,g3,g4,g5⟩:=zF (zb xp (U ux).2 X)
   have uy:(k:Int) < l.length:=by omega
   have jO:=Y vd
   have hszr:=(U ux).2.size
   have uA:Hid (yn wr (wr.alloc (E (yw c.id c.side c.ticks c.left c.life c.tag).toArray 49))):=eE _ _
   have HBR:Hid (World.rangeAt (wr.alloc (E (yw c.id c.side c.ticks c.left c.life c.tag).toArray 49)) wr.heap.size 0 c.vs):=zi wr c.vs _
   have hsx:wr.heap.size < (wr.alloc (E (yw c.id c.side c.ticks c.left c.life c.tag).toArray 49)).heap.size:=by rw [zh]; omega
   have pH:World.cell? (wr.alloc (E (yw c.id c.side c.ticks c.left c.life c.tag).toArray 49)) (yq wr 0) = some (H c.id):=U HBR 0 _ rfl
   clear vd xp X pH
   go_wp2_with fail
   generalize (wr.alloc (E (yw c.id c.side c.ticks c.left c.life c.tag).toArray 49)) = yb at uA HBR hsx ⊢
   refine (ep c yb).mono ?_
   rintro e w3 ⟨rfl,um⟩
   have xQ:=Y (eH (U uA) um)
   have pe:=zb (U HBR) um hsx
   have jd:wr.heap.size < w3.heap.size:=yK hsx um.size
   clear um g0 g1 g2 g3 g4 g5
   have qA:=Y (zm (U ux).1 (U xQ))
   have HW3:=Y ((U ux).2.trans ((U xQ).mono hszr))
   by_cases hd:c.life = 1
   ·have hbd:(c.life == 1) = true:=by simpa using hd
    have HN:=Y (take_dy (U jO) hd)
    have hlg:((l.take k).filter dyB).length ≤ 100:=yO (List.length_filter_le _ _) (yO (List.length_take_le _ _) (by omega))
    obtain ⟨x0,x1,x2,x3,x4,x5⟩:=yD pe
    have kD:=Y ((U qA).alloc (E (yw c.id c.side c.ticks c.left c.life c.tag).toArray 49))
    have HW4:=Y ((U HW3).alloc (U HW3).size (E (yw c.id c.side c.ticks c.left c.life c.tag).toArray 49))
    generalize jX:(l.take k).filter dyB = xW at qA kD HN hlg
    clear hd pe jX ux
    go_wp2_with (at_builtin; go_must (refine wpList_append_own _ rfl _ _ 26 rfl w.heap.size 49 i0 _ 6 56 Tryz.underlying26 uG uF uI uT rfl (by decide) u2 xW.length (xW.flatMap Od.vs) rfl (U kD) (yq w3 0) 1 1 c.vs rfl rfl (cy w3 c.vs 49) (one_od c) (by unfold maxLen; omega) (by omega) (U HW4).size ?_); intro v5 w5 vy aC _; have pw:=Y vy; have jB:=Y aC; clear vy aC)
    have HN5:Hid (ORow w5 w.heap.size v5 ((l.take (k + 1)).filter dyB)∧yn w w5):=by
     refine ⟨?_,(U HW4).grown (U jB) (U HW4).size (fun q hq=>((U kD).lt q hq).1)⟩
     rw [U HN]
     show w5.ownsRow _ _ _ _ (xW ++ [c]).length _
     rw [yQ,List.flatMap_append]
     simpa using U pw
    clear pw jB
    go_wp2_with fail
    go_roundw
    case rel=>exact ⟨k + 1,by omega,by go_num,U HN5⟩
    case measure=>simp [intOf]; omega
   ·have hbd:(c.life == 1) = false:=by rw [xe]; exact hd
    have HN5:Hid (ORow w3 w.heap.size u2 ((l.take (k + 1)).filter dyB)∧yn w w3):=by
     rw [take_no (U jO) hd]
     exact ⟨U qA,U HW3⟩
    clear hd pe
    go_wp2_with fail
    go_roundw
    case rel=>exact ⟨k + 1,by omega,by go_num,U HN5⟩
    case measure=>simp [intOf]; omega
  ·obtain rfl:k = l.length:=by omega
   rw [xa tg] at ux
   have uy:¬ (l.length:Int) < l.length:=by omega
   have hlg:(l.filter dyB).length ≤ 100:=yO (List.length_filter_le _ _) hl
   have HIN:=Y (U ux)
   generalize hgo:l.filter dyB = xW at HIN hlg
   have HGO:=Y hgo
   obtain ⟨ag,cg,hu2,hu3,hu4⟩:=zN (U HIN).1 (by omega)
   have HE0:=Y (zP (U HE) (U HIN).2)
   subst hu2
   have HK0:Hid (KeptBut mb B w wr):=zC (U HIN).2 pF
   clear ux hgo hu3 hu4
   go_wp2_with fail
   refine U xv _ _ ?_
   clear xv
   refine eI fun hR xv=>?_
   go_wp2_with fail
   refine (cB ⟨8,zCm,0,0,(xW.length:Nat),0,0⟩ wr (U HE0) (by omega)).mono ?_
   rintro e w5 ⟨rfl,⟨vo5,qO⟩,hk5,ht5⟩
   have uK:Hid (ORow w5 w.heap.size (.slice ag xW.length cg) xW∧(∃ qu,EnS mb B Bo w5 gv gs gl next vq l t qu (ts ++ [⟨8,zCm,0,0,(xW.length:Nat),0,0⟩] ++ (xW.take 0).map expE))∧KeptBut mb B w w5):=⟨bi (U HIN).1 ht5 (zl (U HIN).1 (U HE0).box (by decide)) (zD (U HIN).1 (U HE0).erow (by decide)),⟨vo5,by simpa using qO⟩,zk (U HK0) hk5⟩
   clear qO hk5 ht5 HIN HE0 HK0
   go_wp2_with fail
   refine U xv _ _ ?_
   clear xv
   refine eI fun hR xv=>?_
   go_wp2_with fail
   go_loopw [32] (fun iv wr2=>∃ (k:Nat),k ≤ xW.length∧iv = H k∧Hid (ORow wr2 w.heap.size (.slice ag xW.length cg) xW∧(∃ qu,EnS mb B Bo wr2 gv gs gl next vq l t qu (ts ++ [⟨8,zCm,0,0,(xW.length:Nat),0,0⟩] ++ (xW.take k).map expE))∧KeptBut mb B w wr2)) (fun iv _=>xW.length - (intOf iv).toNat)
   case atStart=>exact ⟨0,Nat.zero_le _,rfl,U uK⟩
   case round =>
    obtain ⟨k,hk2,rfl,hin2⟩:=hrel
    obtain ⟨kZ,⟨vo6,kj⟩,kM⟩:=U hin2
    by_cases pM:k < xW.length
    ·obtain ⟨o,hko⟩:∃ o,xW[k]? = some o:=⟨_,yI pM⟩
     obtain ⟨a',c',e1,_,xp⟩:=zN kZ (by omega)
     obtain ⟨b,off,e2,X,xp⟩:=xp (by rintro rfl; simp at hko)
     simp only [Value.slice.injEq] at e1
     obtain ⟨e1,-,-⟩:=e1
     rw [e2] at e1
     subst e1
     obtain ⟨g0,g1,g2,g3,g4,g5⟩:=zF (xp k o hko)
     have hlt2':(k:Int) < xW.length:=by omega
     have hk0:(0:Int) ≤ k:=by omega
     have vp:=eE wr (E (yw o.id o.side o.ticks o.left o.life o.tag).toArray 49)
     have HEY:=Y (zP kj vp)
     have HOY:=Y (zm kZ vp)
     have HKY:=Y (zk kM (zC vp (by have:=kj.bo; have:=kj.le; omega)))
     have vF:=Y (ev_more xW ts (xW.length:Nat) hko)
     have HLN:Hid ((ts ++ [(⟨8,zCm,0,0,(xW.length:Nat),0,0⟩:Ev)] ++ (xW.take k).map expE).length ≤ 1000):=by
      show _ ≤ _
      simp [List.length_take]; omega
     clear kZ kj kM xp vp hko e2 X
     go_wp2_with fail
     generalize (wr.alloc (E (yw o.id o.side o.ticks o.left o.life o.tag).toArray 49)) = yb at HEY HOY HKY ⊢
     refine (cB (expE o) yb (U HEY) (U HLN)).mono ?_
     rintro e w6 ⟨rfl,⟨vo7,hE7⟩,hk7,ht7⟩
     have HN:Hid (ORow w6 w.heap.size (.slice (some (J b off)) xW.length cg) xW∧(∃ qu,EnS mb B Bo w6 gv gs gl next vq l t qu (ts ++ [⟨8,zCm,0,0,(xW.length:Nat),0,0⟩] ++ (xW.take (k + 1)).map expE))∧KeptBut mb B w w6):=⟨bi (U HOY) ht7 (zl (U HOY) (U HEY).box (by decide)) (zD (U HOY) (U HEY).erow (by decide)),⟨vo7,by rw [U vF]; exact hE7⟩,zk (U HKY) hk7⟩
     clear hE7 hk7 ht7
     go_wp2_with fail
     go_roundw
     case rel=>exact ⟨k + 1,by omega,by go_num,U HN⟩
     case measure=>simp [intOf]; omega
    ·obtain rfl:k = xW.length:=by omega
     rw [xa tg] at kj
     have hlt2':¬ (xW.length:Int) < xW.length:=by omega
     have qg:=Y kj
     have au:=Y kM
     clear kZ kj kM
     go_wp2_with fail
     refine U xv _ _ ?_
     clear xv
     have z2:wr.cell? (J mb 2) = some vq:=(U qg).cells 2 _ rfl
     go_wp2_with fail
     refine (deleteDay_row B vq l wr (by omega) (U qg).orow).mono ?_
     rintro e w7 ⟨vu,rfl,ho7,hg7,-⟩
     have qJ:some mb ≠ vq.ownBlock:=zl (U qg).orow (U qg).box (by decide)
     have y2:w7.cell? (J mb 2) = some vq:=hg7.cell z2 qJ
     have f2:w7.frozen? (J mb 2) = false:=(World.frozen?_of_block (a:=(J mb 2)) (hg7.block mb (U qg).lt qJ)).trans (by have:=((U qg).there 2 (by omega)).2; rwa [Nat.zero_add] at this)
     obtain ⟨aq,cq,jq,-,-⟩:=zN ho7 (yO (List.length_filter_le _ _) (by omega))
     subst jq
     have hbx7:∃ xu,w7.heap[mb]? = some (.cells xu 71 (0,0)):=by obtain ⟨xu,hc⟩:=(U qg).box; exact ⟨xu,(hg7.block mb (U qg).lt qJ).trans hc⟩
     have ht8:TookAt mb 1 vq.ownBlock wr (w7.setCell (J mb 2) (.slice aq (l.filter ndy).length cq)):=ch (bI hg7 (U qg).lt qJ) (db (o:=1) _ _)
     have HE8:=Y (ens_took (U qg) (yN _ _ _ y2) (zv ho7 (zl ho7 hbx7 (by decide)) 2 _) ht8)
     have HK8:=Y (zk (U au) (cM ht8 (yO (U qg).bo (U qg).le) (fun g' hg'=>((U qg).orow.lt g' hg').1)))
     clear ho7 hg7 ht8 hbx7 z2
     go_wp2_with fail
     go_end0
     rw [U HGO]
     exact ⟨rfl,⟨_,vo6,U HE8⟩,U HK8⟩
end Go.Proofs.YtbakanofkghmiaaGreat
