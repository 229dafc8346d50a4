/-
  The orders of a day taken out of a row, by the program's library: proved by walking the function.
-/
import Derived.Test.YtdfihaabhichdaaGreatRj23
namespace Go.Proofs.YtdfihaabhichdaaGreat
open Go.RowKit
set_option linter.unusedVariables false

def ndy (o:Od):Bool:=!(o.life == 1)
theorem fdyF_spec:∀ (l:List Od) (k:Nat),(fdyF l k = -1∧l.filter ndy = l) ∨ ∃ i o,fdyF l k = ((k + i:Nat):Int)∧l[i]? = some o∧o.life = 1∧(l.take i).filter ndy = l.take i
 | [],k=>.inl ⟨rfl,rfl⟩
 | o :: r,k=>by
  by_cases h:o.life = 1
  ·exact .inr ⟨0,o,by rw [fdyF,if_pos h]; rfl,rfl,h,rfl⟩
  ·have hn:ndy o = true:=by simp [ndy,h]
   rcases fdyF_spec r (k + 1) with ⟨h1,h2⟩ | ⟨i,o',h1,h2,h3,h4⟩
   ·exact .inl ⟨by rw [fdyF,if_neg h,h1],by rw [List.filter_cons_of_pos hn,h2]⟩
   ·exact .inr ⟨i + 1,o',by rw [fdyF,if_neg h,h1]; congr 1; omega,h2,h3,by rw [List.take_succ_cons,List.filter_cons_of_pos hn,h4]⟩
theorem take_day {l:List Od} {j:Nat} {o:Od} (h:l[j]? = some o) (hd:o.life = 1):(l.take (j + 1)).filter ndy = (l.take j).filter ndy:=by
 rw [List.take_add_one,h,List.filter_append]
 simp [ndy,hd]
theorem take_stay {l:List Od} {j:Nat} {o:Od} (h:l[j]? = some o) (hd:o.life ≠ 1):(l.take (j + 1)).filter ndy = (l.take j).filter ndy ++ [o]:=by
 rw [List.take_add_one,h,List.filter_append]
 simp [ndy,hd]
theorem oRow_put {W:World} {B g n cap k:Nat} {m:List Od} {c x:Od} (h:ORow W B (.slice (some ⟨g,0,none⟩) n cap) m) (hn:m.length = n) (hk:m[k]? = some c) :
  ORow (W.setCells g (k * 6) x.vs) B (.slice (some ⟨g,0,none⟩) n cap) (m.set k x)∧W.grownBy (W.setCells g (k * 6) x.vs) (some g):=by
 have hkl:=(List.getElem?_eq_some_iff.1 hk).1
 have one:∀ (W:World) (m:List Od) (c d:Od) (j:Nat) (u:Value),ORow W B (.slice (some ⟨g,0,none⟩) n cap) m→m.length = n→m[k]? = some c→j < 6→d.vs = c.vs.set j u →
   ORow (W.setCell ⟨g,k * 6 + j,none⟩ u) B (.slice (some ⟨g,0,none⟩) n cap) (m.set k d)∧W.grownBy (W.setCell ⟨g,k * 6 + j,none⟩ u) (some g):=by
  intro W m c d j u h hn hk hj hd
  subst hn
  have s:=World.ownsRow.stored h (k * 6 + j) u
  refine ⟨?_,s.2⟩
  have e:=flat_set Od.len m k j c d u hk hj hd
  show World.ownsRow _ _ _ _ _ (m.set k _).length _
  rw [List.length_set,← e]; exact s.1
 have gs:∀ (m:List Od) (d:Od),m.length = n→k < m.length→(m.set k d)[k]? = some d:=fun m d _ hk=>List.getElem?_set_self hk
 obtain ⟨xi,xs,xt,xl,xf,xg⟩:=x
 obtain ⟨ci,cs,ct,cl,cf,cg⟩:=c
 have a0:=one W m ⟨ci,cs,ct,cl,cf,cg⟩ ⟨xi,cs,ct,cl,cf,cg⟩ 0 (.int .i64 xi) h hn hk (by omega) rfl
 have a1:=one _ _ ⟨xi,cs,ct,cl,cf,cg⟩ ⟨xi,xs,ct,cl,cf,cg⟩ 1 (.int .i64 xs) a0.1 (by simp [hn]) (gs m _ hn hkl) (by omega) rfl
 rw [List.set_set] at a1
 have a2:=one _ _ ⟨xi,xs,ct,cl,cf,cg⟩ ⟨xi,xs,xt,cl,cf,cg⟩ 2 (.int .i64 xt) a1.1 (by simp [hn]) (gs m _ hn hkl) (by omega) rfl
 rw [List.set_set] at a2
 have a3:=one _ _ ⟨xi,xs,xt,cl,cf,cg⟩ ⟨xi,xs,xt,xl,cf,cg⟩ 3 (.int .i64 xl) a2.1 (by simp [hn]) (gs m _ hn hkl) (by omega) rfl
 rw [List.set_set] at a3
 have a4:=one _ _ ⟨xi,xs,xt,xl,cf,cg⟩ ⟨xi,xs,xt,xl,xf,cg⟩ 4 (.int .i64 xf) a3.1 (by simp [hn]) (gs m _ hn hkl) (by omega) rfl
 rw [List.set_set] at a4
 have a5:=one _ _ ⟨xi,xs,xt,xl,xf,cg⟩ ⟨xi,xs,xt,xl,xf,xg⟩ 5 (.string xg) a4.1 (by simp [hn]) (gs m _ hn hkl) (by omega) rfl
 rw [List.set_set] at a5
 exact ⟨a5.1,a0.2.trans (a1.2.trans (a2.2.trans (a3.2.trans (a4.2.trans a5.2))))⟩
theorem clear_rowN {P:Program} (w:World) (T ty e:TypeId) (i:TypeInfo) (z:Value) (ht:P.underlying T = some (.slice e)) (hi:P.info? e = some i) (hz:i.zero = some z) (g o m c:Nat) (cur:Array Value) (hg:w.heap[g]? = some (.cells cur e (0,0)))
  (hfit:o + (Builtin.zeroCells z.cells (m + 1)).toList.length ≤ cur.size) (h1:∀ v ∈ (Builtin.zeroCells z.cells (m + 1)).toList,v.oneCell' = true) :
  (Builtin.clear_ #[T] ty #[.slice (some ⟨g,o,none⟩) (m + 1) c]).run P w = .ok (.tuple #[]) (w.setRow g (cur.toList.take o ++ (Builtin.zeroCells z.cells (m + 1)).toList ++ cur.toList.drop (o + (Builtin.zeroCells z.cells (m + 1)).toList.length)).toArray):=by
 have hst:=run_storeCells_at P g o e (Builtin.zeroCells z.cells (m + 1)).toList 0 cur w hg (by simpa using hfit) h1
 simp only [Nat.add_zero] at hst
 simp [Builtin.clear_,run_underlying ht,zeroValue,typeInfo,hi,hz,hst]
theorem zero_len (m:Nat):(Builtin.zeroCells (Value.cells (.agg #[.int .i64 0,.int .i64 0,.int .i64 0,.int .i64 0,.int .i64 0,.string ⟨#[]⟩])) m).toList.length = m * 6:=by
 simp [Builtin.zeroCells,Value.cells]
theorem zero_one (m:Nat):∀ v ∈ (Builtin.zeroCells (Value.cells (.agg #[.int .i64 0,.int .i64 0,.int .i64 0,.int .i64 0,.int .i64 0,.string ⟨#[]⟩])) m).toList,v.oneCell' = true:=by
 intro v hv
 simp only [Builtin.zeroCells,Value.cells,Array.toList_map,List.mem_map] at hv
 obtain ⟨i,_,rfl⟩:=hv
 show (#[Value.int .i64 0,.int .i64 0,.int .i64 0,.int .i64 0,.int .i64 0,.string ⟨#[]⟩][i % 6]!).oneCell' = true
 rcases (by omega:i % 6 = 0 ∨ i % 6 = 1 ∨ i % 6 = 2 ∨ i % 6 = 3 ∨ i % 6 = 4 ∨ i % 6 = 5) with e | e | e | e | e | e <;> rw [e] <;> rfl
theorem drop_eq {l m:List Od} {j:Nat} (h:m.drop j = l.drop j):m[j]? = l[j]?:=by
 have:=congrArg (·[0]?) h
 simpa using this
theorem drop_more {l m:List Od} {j:Nat} (h:m.drop j = l.drop j):m.drop (j + 1) = l.drop (j + 1):=by
 have:=congrArg (List.drop 1) h
 simpa using this
set_option maxRecDepth 100000 in
set_option maxHeartbeats 6400000 in
theorem deleteDay_any (g cap B:Nat) (l:List Od) (w:World) (hn:l.length ≤ 1000) (ho:ORow w B (.slice (some ⟨g,0,none⟩) l.length cap) l) :
  Calls Tryz.prog 124 #[.slice (some ⟨g,0,none⟩) l.length cap,.func (.func 123) #[] #[]] w fun e w'=>e = .returned (.slice (some ⟨g,0,none⟩) (l.filter ndy).length cap)∧ORow w' B (.slice (some ⟨g,0,none⟩) (l.filter ndy).length cap) (l.filter ndy)∧w.grownBy w' (some g):=by
 obtain ⟨i0,hi0,hz0,hz1,hz2⟩:=info_parts Tryz.infoOrder
 have HO:=hide ho
 have hgw:g < w.heap.size:=(ho.lt g rfl).2
 clear ho
 go_enter Tryz.func124,Tryz.ntmps124
 go_wp2_with fail
 refine (indexDay_any _ l w (zP (za HO) (by omega))).mono ?_
 rcases fdyF_spec l 0 with ⟨h1,h2⟩ | ⟨i,o,h1,h2,h3,h4⟩
 ·have hf:fdy l = -1:=h1
  rw [hf]
  rintro e w2 ⟨rfl,hb2⟩
  have HO2:=hide (zm (za HO) hb2)
  have HG2:Hid (w.grownBy w2 (some g)):=zaa hb2 (Nat.le_refl _)
  have HF:=hide h2
  clear hb2 h1 h2 hf
  go_wp2_with fail
  go_ret
  rw [za HF]
  exact ⟨rfl,za HO2,za HG2⟩
 ·have hf:fdy l = (i:Int):=by rw [fdy,h1]; congr 1; omega
  rw [hf]
  rintro e w2 ⟨rfl,hb2⟩
  have hil:=(List.getElem?_eq_some_iff.1 h2).1
  have HST:Hid (∃ m:List Od,m.length = l.length∧ORow w2 B (.slice (some ⟨g,0,none⟩) l.length cap) m∧m.take i = (l.take (i + 1)).filter ndy∧m.drop (i + 1) = l.drop (i + 1)∧w.grownBy w2 (some g)):=⟨l,rfl,zm (za HO) hb2,by rw [take_day h2 h3,h4],rfl,zaa hb2 (Nat.le_refl _)⟩
  have HIL:Hid (((l.take (i + 1)).filter ndy).length = i):=by show _ = _; rw [take_day h2 h3,h4,List.length_take]; omega
  have hi1:(i:Int) ≠ -1:=by omega
  have hi1':((i:Int) == -1) = false:=by rw [beq_eq_false_iff_ne]; exact hi1
  clear hb2 h1 h2 h3 h4 hf
  go_wp2_with fail
  go_loopw [5,6] (fun iv jv wr=>∃ (k j:Nat) (m:List Od),j ≤ l.length∧k < j∧iv = .int .i64 k∧jv = .int .i64 j∧Hid (m.length = l.length∧ORow wr B (.slice (some ⟨g,0,none⟩) l.length cap) m∧m.take k = (l.take j).filter ndy∧((l.take j).filter ndy).length = k∧m.drop j = l.drop j∧w.grownBy wr (some g))) (fun _ jv _=>l.length - (intOf jv).toNat)
  case atStart =>
   obtain ⟨m,a1,a2,a3,a4,a5⟩:=za HST
   exact ⟨i,i + 1,m,by omega,by omega,rfl,by go_num,⟨a1,a2,a3,za HIL,a4,a5⟩⟩
  case round =>
   obtain ⟨k,j,m,hj,hkj,rfl,rfl,hin⟩:=hrel
   obtain ⟨a1,a2,a3,a4,a5,a6⟩:=za hin
   by_cases hlt:j < l.length
   ·obtain ⟨o,hjo⟩:∃ o,l[j]? = some o:=⟨_,List.getElem?_eq_getElem hlt⟩
    have hmo:m[j]? = some o:=(drop_eq a5).trans hjo
    obtain ⟨c,hkc⟩:∃ c,m[k]? = some c:=⟨_,List.getElem?_eq_getElem (by omega)⟩
    obtain ⟨g0,g1,g2,g3,g4,g5⟩:=zC (row_hereE a2 (by omega) hmo).1
    have hlt':(j:Int) < l.length:=by omega
    have hj0:(0:Int) ≤ j:=by omega
    have hgr:g < wr.heap.size:=(a2.lt g rfl).2
    have HJO:=hide hjo
    have HKC:=hide hkc
    have hbx:Below wr.heap.size wr (wr.alloc (Obj.cells #[.int .i64 o.id,.int .i64 o.side,.int .i64 o.ticks,.int .i64 o.left,.int .i64 o.life,.string o.tag] 100)):=(Below.refl _ _).alloc (Nat.le_refl _) _
    have HBX:=hide hbx
    have HBR:Hid (World.rangeAt (wr.alloc (Obj.cells #[.int .i64 o.id,.int .i64 o.side,.int .i64 o.ticks,.int .i64 o.left,.int .i64 o.life,.string o.tag] 100)) wr.heap.size 0 o.vs):=zg wr o.vs _
    have hsx:wr.heap.size < (wr.alloc (Obj.cells #[.int .i64 o.id,.int .i64 o.side,.int .i64 o.ticks,.int .i64 o.left,.int .i64 o.life,.string o.tag] 100)).heap.size:=by rw [zf]; omega
    clear hjo hmo hkc hbx a1 a2 a3 a4 a5 a6
    go_wp2_with fail
    generalize (wr.alloc (Obj.cells #[.int .i64 o.id,.int .i64 o.side,.int .i64 o.ticks,.int .i64 o.left,.int .i64 o.life,.string o.tag] 100)) = Y at HBX HBR hsx ⊢
    refine (zcm o Y).mono ?_
    rintro e w3 ⟨rfl,hb3⟩
    have HB3:=hide ((za HBX).trans (hb3.mono (za HBX).size))
    have hbr:=zb (za HBR) hb3 hsx
    have x0:w3.cell? ⟨wr.heap.size,0,none⟩ = some (.int .i64 o.id):=hbr 0 _ rfl
    have x1:w3.cell? ⟨wr.heap.size,1,none⟩ = some (.int .i64 o.side):=hbr 1 _ rfl
    have x2:w3.cell? ⟨wr.heap.size,2,none⟩ = some (.int .i64 o.ticks):=hbr 2 _ rfl
    have x3:w3.cell? ⟨wr.heap.size,3,none⟩ = some (.int .i64 o.left):=hbr 3 _ rfl
    have x4:w3.cell? ⟨wr.heap.size,4,none⟩ = some (.int .i64 o.life):=hbr 4 _ rfl
    have x5:w3.cell? ⟨wr.heap.size,5,none⟩ = some (.string o.tag):=hbr 5 _ rfl
    clear hb3 hbr g0 g1 g2 g3 g4 g5
    obtain ⟨a1,a2,a3,a4,a5,a6⟩:=za hin
    have a2':=zm a2 (za HB3)
    have HA2:=hide a2'
    have HG3:Hid (w.grownBy w3 (some g)):=a6.trans (zaa (za HB3) (Nat.le_refl _))
    have HA:Hid (m.length = l.length∧m.take k = (l.take j).filter ndy∧((l.take j).filter ndy).length = k∧m.drop j = l.drop j):=⟨a1,a3,a4,a5⟩
    have hck:=row_hereE a2' (by omega) (za HKC)
    by_cases hd:o.life = 1
    ·have hb:(o.life == 1) = true:=by simpa using hd
     have HN:Hid (m.length = l.length∧ORow w3 B (.slice (some ⟨g,0,none⟩) l.length cap) m∧m.take k = (l.take (j + 1)).filter ndy∧((l.take (j + 1)).filter ndy).length = k∧m.drop (j + 1) = l.drop (j + 1)∧w.grownBy w3 (some g)):=by
      rw [take_day (za HJO) hd]
      exact ⟨a1,a2',a3,a4,drop_more a5,za HG3⟩
     clear hd a1 a2 a3 a4 a5 a6 a2' hck
     go_wp2_with fail
     go_roundw
     case rel=>exact ⟨k,j + 1,m,by omega,by omega,rfl,by go_num,za HN⟩
     case measure=>simp [intOf]; omega
    ·have hb:(o.life == 1) = false:=by rw [beq_eq_false_iff_ne]; exact hd
     have hput:=oRow_put (x:=o) a2' a1 (za HKC)
     have HN:Hid ((m.set k o).length = l.length∧ORow (w3.setCells g (k * 6) o.vs) B (.slice (some ⟨g,0,none⟩) l.length cap) (m.set k o)∧(m.set k o).take (k + 1) = (l.take (j + 1)).filter ndy∧((l.take (j + 1)).filter ndy).length = k + 1∧(m.set k o).drop (j + 1) = l.drop (j + 1)∧w.grownBy (w3.setCells g (k * 6) o.vs) (some g)):=by
      rw [take_stay (za HJO) hd]
      refine ⟨by rw [List.length_set]; exact a1,hput.1,?_,by rw [List.length_append,a4]; rfl,?_,(za HG3).trans hput.2⟩
      ·rw [List.take_add_one,List.getElem?_set_self (by omega),List.take_set_of_le (Nat.le_refl _),a3]; rfl
      ·rw [List.drop_set_of_lt (by omega)]; exact drop_more a5
     obtain ⟨p0,p1,p2,p3,p4,p5⟩:=zC hck.1
     have q0:w3.frozen? ⟨g,k * 6,none⟩ = false:=hck.2 0 (by omega)
     have q1:w3.frozen? ⟨g,k * 6 + 1,none⟩ = false:=hck.2 1 (by omega)
     have q2:w3.frozen? ⟨g,k * 6 + 2,none⟩ = false:=hck.2 2 (by omega)
     have q3:w3.frozen? ⟨g,k * 6 + 3,none⟩ = false:=hck.2 3 (by omega)
     have q4:w3.frozen? ⟨g,k * 6 + 4,none⟩ = false:=hck.2 4 (by omega)
     have q5:w3.frozen? ⟨g,k * 6 + 5,none⟩ = false:=hck.2 5 (by omega)
     have hkl:(k:Int) < l.length:=by omega
     have hk0:(0:Int) ≤ k:=by omega
     clear hd a1 a2 a3 a4 a5 a6 a2' hck hput
     go_wp2_with fail
     go_roundw
     case rel=>exact ⟨k + 1,j + 1,m.set k o,by omega,by omega,by go_num,by go_num,za HN⟩
     case measure=>simp [intOf]; omega
   ·obtain rfl:j = l.length:=by omega
    rw [List.take_of_length_le (Nat.le_refl _)] at a3 a4
    obtain ⟨mm,hmm⟩:∃ mm,l.length - k = mm + 1:=⟨l.length - k - 1,by omega⟩
    rcases a2.2 with ⟨hbad,_⟩ | ⟨g',cap',cur,hv,hBg,hgg,hcap,hmx,hsz,htk⟩
    ·cases hbad
    simp only [Value.slice.injEq,Option.some.injEq,Addr.mk.injEq,and_true] at hv
    obtain ⟨rfl,-,rfl⟩:=hv
    have hzl:=zero_len (mm + 1)
    have hfit:k * 6 + (mm + 1) * 6 ≤ cur.size:=by rw [hsz]; omega
    have hcl:∀ (ty:TypeId) (c:Nat),(Builtin.clear_ #[30] ty #[.slice (some ⟨g,k * 6,none⟩) (l.length - k) c]).run Tryz.prog wr = .ok (.tuple #[]) (wr.setRow g (cur.toList.take (k * 6) ++ (Builtin.zeroCells (Value.cells (.agg #[.int .i64 0,.int .i64 0,.int .i64 0,.int .i64 0,.int .i64 0,.string ⟨#[]⟩])) (mm + 1)).toList ++ cur.toList.drop (k * 6 + (mm + 1) * 6)).toArray):=fun ty c=>by
     rw [hmm]
     have:=clear_rowN wr 30 ty 100 i0 _ Tryz.underlying30 hi0 hz0 g (k * 6) mm c cur hgg (by rw [hzl]; exact hfit) (zero_one _)
     rw [hzl] at this
     exact this
    generalize hZ:(Builtin.zeroCells (Value.cells (.agg #[.int .i64 0,.int .i64 0,.int .i64 0,.int .i64 0,.int .i64 0,.string ⟨#[]⟩])) (mm + 1)).toList = Z at hzl hcl
    have hl2:(cur.toList.take (k * 6) ++ Z ++ cur.toList.drop (k * 6 + (mm + 1) * 6)).length = cap * 6:=by
     have hcl:cur.toList.length = cap * 6:=by simpa using hsz
     rw [List.length_append,List.length_append,hzl,List.length_take,List.length_drop,hcl]; rw [hsz] at hfit; omega
    have ht2:(cur.toList.take (k * 6) ++ Z ++ cur.toList.drop (k * 6 + (mm + 1) * 6)).take (k * 6) = (l.filter ndy).flatMap Od.vs:=by
     have hcl:cur.toList.length = cap * 6:=by simpa using hsz
     have hkc:(cur.toList.take (k * 6)).length = k * 6:=by rw [List.length_take,hcl]; rw [hsz] at hfit; omega
     rw [List.append_assoc,List.take_append_of_le_length (by omega),List.take_of_length_le (by omega)]
     have h:=congrArg (List.take (k * 6)) htk
     rw [List.take_take,show min (k * 6) (m.length * 6) = k * 6 by omega] at h
     rw [h,← a3]
     conv=>lhs; rw [← List.take_append_drop k m,List.flatMap_append]
     rw [List.take_append_of_le_length (by rw [zM Od.len,List.length_take]; omega),List.take_of_length_le (by rw [zM Od.len,List.length_take]; omega)]
    have HX2:=hide (setRow_heap wr g cur (cur.toList.take (k * 6) ++ Z ++ cur.toList.drop (k * 6 + (mm + 1) * 6)).toArray 100 (0,0) hgg)
    have HG2:Hid (w.grownBy (wr.setRow g (cur.toList.take (k * 6) ++ Z ++ cur.toList.drop (k * 6 + (mm + 1) * 6)).toArray) (some g)):=a6.trans ⟨rfl,rfl,rfl,by simp,fun q hq hne=>setRow_other wr g q _ (fun e=>hne (by rw [e]))⟩
    generalize (cur.toList.take (k * 6) ++ Z ++ cur.toList.drop (k * 6 + (mm + 1) * 6)) = C2 at hl2 ht2 hcl HX2 HG2
    have HFK:=hide a4
    have HL2:=hide hl2
    have HT2:=hide ht2
    have HMM:=hide hmm
    have k1:¬ cap = k:=by omega
    have k2:(k:Int) ≤ l.length:=by omega
    have k3:(0:Int) ≤ k:=by omega
    have k4:(l.length:Int) ≤ cap:=by omega
    have k5:(k:Int) ≤ cap:=by omega
    have k6:¬ (l.length:Int) < l.length:=by omega
    have HB:=hide (And.intro hBg (And.intro hmx hcap))
    clear hzl hZ hl2 ht2 hmm hfit htk hsz hgg a1 a2 a3 a4 a5 a6 hlt hj hin HST HIL
    go_wp2_with fail
    go_ret
    have e:=za HFK
    refine ⟨by rw [e]; rfl,⟨by rw [zM Od.len],.inr ⟨g,cap,C2.toArray,by rw [e],(za HB).1,za HX2,by rw [e]; omega,(za HB).2.1,by simpa using za HL2,by rw [e]; simpa using za HT2⟩⟩,za HG2⟩
end Go.Proofs.YtdfihaabhichdaaGreat
namespace Go.Proofs.YtdfihaabhichdaaGreat
open Go.RowKit
set_option linter.unusedVariables false

def dyB (o:Od):Bool:=o.life == 1
def expE (o:Od):Ev:=⟨9,zCm,o.id,0,o.left,0,0⟩
theorem take_dy {l:List Od} {j:Nat} {o:Od} (h:l[j]? = some o) (hd:o.life = 1):(l.take (j + 1)).filter dyB = (l.take j).filter dyB ++ [o]:=by
 rw [List.take_add_one,h,List.filter_append]
 simp [dyB,hd]
theorem take_no {l:List Od} {j:Nat} {o:Od} (h:l[j]? = some o) (hd:o.life ≠ 1):(l.take (j + 1)).filter dyB = (l.take j).filter dyB:=by
 rw [List.take_add_one,h,List.filter_append]
 simp [dyB,hd]
theorem ev_more (going:List Od) (ts:List Ev) (n:Int) {k:Nat} {o:Od} (h:going[k]? = some o):ts ++ [⟨8,zCm,0,0,n,0,0⟩] ++ (going.take (k + 1)).map expE = (ts ++ [⟨8,zCm,0,0,n,0,0⟩] ++ (going.take k).map expE) ++ [expE o]:=by
 rw [List.take_add_one,h]; simp
set_option maxHeartbeats 800000 in
theorem deleteDay_nil (w:World) :
  Calls Tryz.prog 124 #[.slice none 0 0,.func (.func 123) #[] #[]] w fun e w'=>e = .returned (.slice none 0 0)∧Below w.heap.size w w':=by
 go_enter Tryz.func124,Tryz.ntmps124
 go_wp2_with fail
 refine (indexDay_any (.slice none 0 0) [] w ⟨none,0,rfl,by simp,fun h=>absurd rfl h⟩).mono ?_
 rintro e w2 ⟨rfl,hb2⟩
 have hf:fdy [] = -1:=rfl
 rw [hf]
 have HB:=hide hb2
 clear hb2
 go_wp2_with fail
 go_ret
 exact ⟨rfl,za HB⟩
theorem deleteDay_row (B:Nat) (v:Value) (l:List Od) (w:World) (hn:l.length ≤ 1000) (ho:ORow w B v l) :
  Calls Tryz.prog 124 #[v,.func (.func 123) #[] #[]] w fun e w'=>∃ v',e = .returned v'∧ORow w' B v' (l.filter ndy)∧w.grownBy w' v.ownBlock∧v'.oneCell' = true:=by
 rcases ho.2 with ⟨rfl,h0⟩ | ⟨g,cap,cur,rfl,_⟩
 ·obtain rfl:=List.length_eq_zero_iff.1 h0
  refine (deleteDay_nil w).mono ?_
  rintro e w2 ⟨rfl,hb2⟩
  exact ⟨_,rfl,World.ownsRow_nil _ _ _ _,zaa hb2 (Nat.le_refl _),rfl⟩
 ·refine (deleteDay_any g cap B l w hn ho).mono ?_
  rintro e w2 ⟨rfl,ho2,hg2⟩
  exact ⟨_,rfl,ho2,hg2,rfl⟩
set_option maxRecDepth 100000 in
set_option maxHeartbeats 6400000 in
theorem endDayE_any {mb B Bo:Nat} {gv:Value} {gs:List Value} {gl:List (List Ev)} {next:Int} {vq:Value} {l:List Od} {t:Tot} {vo:Value} {ts:List Ev} (w:World) (h:EnS mb B Bo w gv gs gl next vq l t vo ts) (hl:l.length ≤ 100) (hn:ts.length ≤ 100) :
  Calls Tryz.prog 86 #[.pointer (some ⟨mb,0,none⟩)] w fun r w'=>r = .returned (.tuple #[])∧(∃ vq' vo',EnS mb B Bo w' gv gs gl next vq' (l.filter ndy) t vo' (ts ++ [⟨8,zCm,0,0,((l.filter dyB).length:Nat),0,0⟩] ++ (l.filter dyB).map expE))∧KeptBut mb B w w':=by
 obtain ⟨i0,hi0,hz0,hz1,hz2⟩:=info_parts Tryz.infoOrder
 have HE:=hide h
 have hmw:=h.lt
 have hBw:B ≤ w.heap.size:=Nat.le_trans h.bo h.le
 obtain ⟨a,cap,hvq,hlen,hc⟩:=zP h.orow (by omega)
 have hcell:∀ (k:Nat) (c:Od),l[k]? = some c→∃ b off,a = some ⟨b,off,none⟩∧b < w.heap.size∧w.rangeAt b (off + k * 6) c.vs:=by
  intro k c hk
  obtain ⟨b,off,h1,h2,h3⟩:=hc (by intro h; rw [h] at hk; simp at hk)
  exact ⟨b,off,h1,h2,h3 k c hk⟩
 have HC:=hide hcell
 have z2:w.cell? ⟨mb,2,none⟩ = some (.slice a l.length cap):=by rw [← hvq]; exact h.cells 2 _ rfl
 have HVQ:=hide hvq
 clear hcell hc hlen h hvq
 go_enter Tryz.func86,Tryz.ntmps86
 refine wp_seq_k fun K hK=>?_
 have HK1:=hide hK
 clear hK
 go_wp2_with fail
 refine za HK1 _ _ ?_
 clear HK1
 refine wp_seq_k fun K hK=>?_
 have HK1:=hide hK
 clear hK
 go_wp2_with fail
 clear z2
 go_loopw [2,14] (fun gov iv wr=>∃ (k:Nat),k ≤ l.length∧iv = .int .i64 k∧Hid (ORow wr w.heap.size gov ((l.take k).filter dyB)∧Below w.heap.size w wr)) (fun _ iv _=>l.length - (intOf iv).toNat)
 case atStart=>exact ⟨0,Nat.zero_le _,rfl,⟨World.ownsRow_nil _ _ _ _,Below.refl _ _⟩⟩
 case round =>
  obtain ⟨k,hk,rfl,hin⟩:=hrel
  by_cases hlt:k < l.length
  ·obtain ⟨c,hkc⟩:∃ c,l[k]? = some c:=⟨_,List.getElem?_eq_getElem hlt⟩
   obtain ⟨b,off,rfl,hb,hcl⟩:=za HC k c hkc
   obtain ⟨g0,g1,g2,g3,g4,g5⟩:=zC (zb hcl (za hin).2 hb)
   have hlt':(k:Int) < l.length:=by omega
   have HKC:=hide hkc
   have hszr:=(za hin).2.size
   have HBX:Hid (Below wr.heap.size wr (wr.alloc (Obj.cells #[.int .i64 c.id,.int .i64 c.side,.int .i64 c.ticks,.int .i64 c.left,.int .i64 c.life,.string c.tag] 100))):=(Below.refl _ _).alloc (Nat.le_refl _) _
   have HBR:Hid (World.rangeAt (wr.alloc (Obj.cells #[.int .i64 c.id,.int .i64 c.side,.int .i64 c.ticks,.int .i64 c.left,.int .i64 c.life,.string c.tag] 100)) wr.heap.size 0 c.vs):=zg wr c.vs _
   have hsx:wr.heap.size < (wr.alloc (Obj.cells #[.int .i64 c.id,.int .i64 c.side,.int .i64 c.ticks,.int .i64 c.left,.int .i64 c.life,.string c.tag] 100)).heap.size:=by rw [zf]; omega
   have hc0:World.cell? (wr.alloc (Obj.cells #[.int .i64 c.id,.int .i64 c.side,.int .i64 c.ticks,.int .i64 c.left,.int .i64 c.life,.string c.tag] 100)) ⟨wr.heap.size,0,none⟩ = some (.int .i64 c.id):=za HBR 0 _ rfl
   clear hkc hcl hb hc0
   go_wp2_with fail
   generalize (wr.alloc (Obj.cells #[.int .i64 c.id,.int .i64 c.side,.int .i64 c.ticks,.int .i64 c.left,.int .i64 c.life,.string c.tag] 100)) = Y at HBX HBR hsx ⊢
   refine (zcm c Y).mono ?_
   rintro e w3 ⟨rfl,hb3⟩
   have HB3:=hide ((za HBX).trans (hb3.mono (za HBX).size))
   have hbr:=zb (za HBR) hb3 hsx
   have hs3:wr.heap.size < w3.heap.size:=Nat.lt_of_lt_of_le hsx hb3.size
   clear hb3 g0 g1 g2 g3 g4 g5
   have HO3:=hide (zm (za hin).1 (za HB3))
   have HW3:=hide ((za hin).2.trans ((za HB3).mono hszr))
   by_cases hd:c.life = 1
   ·have hbd:(c.life == 1) = true:=by simpa using hd
    have HN:=hide (take_dy (za HKC) hd)
    have hlg:((l.take k).filter dyB).length ≤ 100:=Nat.le_trans (List.length_filter_le _ _) (Nat.le_trans (List.length_take_le _ _) (by omega))
    have x0:w3.cell? ⟨wr.heap.size,0,none⟩ = some (.int .i64 c.id):=hbr 0 _ rfl
    have x1:w3.cell? ⟨wr.heap.size,1,none⟩ = some (.int .i64 c.side):=hbr 1 _ rfl
    have x2:w3.cell? ⟨wr.heap.size,2,none⟩ = some (.int .i64 c.ticks):=hbr 2 _ rfl
    have x3:w3.cell? ⟨wr.heap.size,3,none⟩ = some (.int .i64 c.left):=hbr 3 _ rfl
    have x4:w3.cell? ⟨wr.heap.size,4,none⟩ = some (.int .i64 c.life):=hbr 4 _ rfl
    have x5:w3.cell? ⟨wr.heap.size,5,none⟩ = some (.string c.tag):=hbr 5 _ rfl
    have HO4:=hide ((za HO3).alloc (Obj.cells #[.int .i64 c.id,.int .i64 c.side,.int .i64 c.ticks,.int .i64 c.left,.int .i64 c.life,.string c.tag] 100))
    have HW4:=hide ((za HW3).alloc (za HW3).size (Obj.cells #[.int .i64 c.id,.int .i64 c.side,.int .i64 c.ticks,.int .i64 c.left,.int .i64 c.life,.string c.tag] 100))
    generalize hgl:(l.take k).filter dyB = going at HO3 HO4 HN hlg
    clear hd hbr hgl hin
    go_wp2_with (at_builtin; go_must (refine wpList_append_own _ rfl _ _ 30 rfl w.heap.size 100 i0 _ 6 56 Tryz.underlying30 hi0 hz0 hz1 hz2 rfl (by decide) u2 going.length (going.flatMap Od.vs) rfl (za HO4) ⟨w3.heap.size,0,none⟩ 1 1 c.vs rfl rfl (zci w3 c.vs 100) (one_od c) (by unfold maxLen; omega) (by omega) (za HW4).size ?_); intro v5 w5 hown5 hg5 _; have HO5:=hide hown5; have HG5:=hide hg5; clear hown5 hg5)
    have HN5:Hid (ORow w5 w.heap.size v5 ((l.take (k + 1)).filter dyB)∧Below w.heap.size w w5):=by
     refine ⟨?_,(za HW4).grown (za HG5) (za HW4).size (fun q hq=>((za HO4).lt q hq).1)⟩
     rw [za HN]
     show w5.ownsRow _ _ _ _ (going ++ [c]).length _
     rw [List.length_append,List.flatMap_append]
     simpa using za HO5
    clear HO5 HG5
    go_wp2_with fail
    go_roundw
    case rel=>exact ⟨k + 1,by omega,by go_num,za HN5⟩
    case measure=>simp [intOf]; omega
   ·have hbd:(c.life == 1) = false:=by rw [beq_eq_false_iff_ne]; exact hd
    have HN5:Hid (ORow w3 w.heap.size u2 ((l.take (k + 1)).filter dyB)∧Below w.heap.size w w3):=by
     rw [take_no (za HKC) hd]
     exact ⟨za HO3,za HW3⟩
    clear hd hbr
    go_wp2_with fail
    go_roundw
    case rel=>exact ⟨k + 1,by omega,by go_num,za HN5⟩
    case measure=>simp [intOf]; omega
  ·obtain rfl:k = l.length:=by omega
   rw [List.take_of_length_le (Nat.le_refl _)] at hin
   have hlt':¬ (l.length:Int) < l.length:=by omega
   have hlg:(l.filter dyB).length ≤ 100:=Nat.le_trans (List.length_filter_le _ _) hl
   have HIN:=hide (za hin)
   generalize hgo:l.filter dyB = going at HIN hlg
   have HGO:=hide hgo
   obtain ⟨ag,cg,hu2,hu3,hu4⟩:=zP (za HIN).1 (by omega)
   have HE0:=hide (zR (za HE) (za HIN).2)
   subst hu2
   have HK0:Hid (KeptBut mb B w wr):=zG (za HIN).2 hBw
   clear hin hgo hu3 hu4
   go_wp2_with fail
   refine za HK1 _ _ ?_
   clear HK1
   refine wp_seq_k fun K hK=>?_
   have HK1:=hide hK
   clear hK
   go_wp2_with fail
   refine (zaT ⟨8,zCm,0,0,(going.length:Nat),0,0⟩ wr (za HE0) (by omega)).mono ?_
   rintro e w5 ⟨rfl,⟨vo5,hE5⟩,hk5,ht5⟩
   have HST:Hid (ORow w5 w.heap.size (.slice ag going.length cg) going∧(∃ vo',EnS mb B Bo w5 gv gs gl next vq l t vo' (ts ++ [⟨8,zCm,0,0,(going.length:Nat),0,0⟩] ++ (going.take 0).map expE))∧KeptBut mb B w w5):=⟨zal (za HIN).1 ht5 (zl (za HIN).1 (za HE0).box (by decide)) (zz (za HIN).1 (za HE0).erow (by decide)),⟨vo5,by simpa using hE5⟩,zk (za HK0) hk5⟩
   clear hE5 hk5 ht5 HIN HE0 HK0
   go_wp2_with fail
   refine za HK1 _ _ ?_
   clear HK1
   refine wp_seq_k fun K hK=>?_
   have HK1:=hide hK
   clear hK
   go_wp2_with fail
   go_loopw [32] (fun iv wr2=>∃ (k:Nat),k ≤ going.length∧iv = .int .i64 k∧Hid (ORow wr2 w.heap.size (.slice ag going.length cg) going∧(∃ vo',EnS mb B Bo wr2 gv gs gl next vq l t vo' (ts ++ [⟨8,zCm,0,0,(going.length:Nat),0,0⟩] ++ (going.take k).map expE))∧KeptBut mb B w wr2)) (fun iv _=>going.length - (intOf iv).toNat)
   case atStart=>exact ⟨0,Nat.zero_le _,rfl,za HST⟩
   case round =>
    obtain ⟨k,hk2,rfl,hin2⟩:=hrel
    obtain ⟨hor,⟨vo6,hE6⟩,hk6⟩:=za hin2
    by_cases hlt2:k < going.length
    ·obtain ⟨o,hko⟩:∃ o,going[k]? = some o:=⟨_,List.getElem?_eq_getElem hlt2⟩
     obtain ⟨a',c',e1,_,hcl⟩:=zP hor (by omega)
     obtain ⟨b,off,e2,hb,hcl⟩:=hcl (by rintro rfl; simp at hko)
     simp only [Value.slice.injEq] at e1
     obtain ⟨e1,-,-⟩:=e1
     rw [e2] at e1
     subst e1
     obtain ⟨g0,g1,g2,g3,g4,g5⟩:=zC (hcl k o hko)
     have hlt2':(k:Int) < going.length:=by omega
     have hk0:(0:Int) ≤ k:=by omega
     have hbY:Below wr.heap.size wr (wr.alloc (Obj.cells #[.int .i64 o.id,.int .i64 o.side,.int .i64 o.ticks,.int .i64 o.left,.int .i64 o.life,.string o.tag] 100)):=(Below.refl _ _).alloc (Nat.le_refl _) _
     have HEY:=hide (zR hE6 hbY)
     have HOY:=hide (zm hor hbY)
     have HKY:=hide (zk hk6 (zG hbY (by have:=hE6.bo; have:=hE6.le; omega)))
     have HNX:=hide (ev_more going ts (going.length:Nat) hko)
     have HLN:Hid ((ts ++ [(⟨8,zCm,0,0,(going.length:Nat),0,0⟩:Ev)] ++ (going.take k).map expE).length ≤ 1000):=by
      show _ ≤ _
      simp [List.length_take]; omega
     clear hor hE6 hk6 hcl hbY hko e2 hb
     go_wp2_with fail
     generalize (wr.alloc (Obj.cells #[.int .i64 o.id,.int .i64 o.side,.int .i64 o.ticks,.int .i64 o.left,.int .i64 o.life,.string o.tag] 100)) = Y at HEY HOY HKY ⊢
     refine (zaT (expE o) Y (za HEY) (za HLN)).mono ?_
     rintro e w6 ⟨rfl,⟨vo7,hE7⟩,hk7,ht7⟩
     have HN:Hid (ORow w6 w.heap.size (.slice (some ⟨b,off,none⟩) going.length cg) going∧(∃ vo',EnS mb B Bo w6 gv gs gl next vq l t vo' (ts ++ [⟨8,zCm,0,0,(going.length:Nat),0,0⟩] ++ (going.take (k + 1)).map expE))∧KeptBut mb B w w6):=⟨zal (za HOY) ht7 (zl (za HOY) (za HEY).box (by decide)) (zz (za HOY) (za HEY).erow (by decide)),⟨vo7,by rw [za HNX]; exact hE7⟩,zk (za HKY) hk7⟩
     clear hE7 hk7 ht7
     go_wp2_with fail
     go_roundw
     case rel=>exact ⟨k + 1,by omega,by go_num,za HN⟩
     case measure=>simp [intOf]; omega
    ·obtain rfl:k = going.length:=by omega
     rw [List.take_of_length_le (Nat.le_refl _)] at hE6
     have hlt2':¬ (going.length:Int) < going.length:=by omega
     have HE6:=hide hE6
     have HK6:=hide hk6
     clear hor hE6 hk6
     go_wp2_with fail
     refine za HK1 _ _ ?_
     clear HK1
     have z2:wr.cell? ⟨mb,2,none⟩ = some vq:=(za HE6).cells 2 _ rfl
     go_wp2_with fail
     refine (deleteDay_row B vq l wr (by omega) (za HE6).orow).mono ?_
     rintro e w7 ⟨vq',rfl,ho7,hg7,-⟩
     have hnq:some mb ≠ vq.ownBlock:=zl (za HE6).orow (za HE6).box (by decide)
     have y2:w7.cell? ⟨mb,2,none⟩ = some vq:=hg7.cell z2 hnq
     have f2:w7.frozen? ⟨mb,2,none⟩ = false:=(World.frozen?_of_block (a:=⟨mb,2,none⟩) (hg7.block mb (za HE6).lt hnq)).trans (by have:=((za HE6).there 2 (by omega)).2; rwa [Nat.zero_add] at this)
     obtain ⟨aq,cq,hq1,-,-⟩:=zP ho7 (Nat.le_trans (List.length_filter_le _ _) (by omega))
     subst hq1
     have hbx7:∃ cur,w7.heap[mb]? = some (.cells cur 75 (0,0)):=by obtain ⟨cur,hc⟩:=(za HE6).box; exact ⟨cur,(hg7.block mb (za HE6).lt hnq).trans hc⟩
     have ht8:TookAt mb 1 vq.ownBlock wr (w7.setCell ⟨mb,2,none⟩ (.slice aq (l.filter ndy).length cq)):=zaq (zah hg7 (za HE6).lt hnq) (zbN (o:=1) _ _)
     have HE8:=hide (ens_took (za HE6) (World.cell?_setCell_same _ _ _ y2) (zt ho7 (zl ho7 hbx7 (by decide)) 2 _) ht8)
     have HK8:=hide (zk (za HK6) (zbb ht8 (Nat.le_trans (za HE6).bo (za HE6).le) (fun g' hg'=>((za HE6).orow.lt g' hg').1)))
     clear ho7 hg7 ht8 hbx7 z2
     go_wp2_with fail
     go_end0
     rw [za HGO]
     exact ⟨rfl,⟨_,vo6,za HE8⟩,za HK8⟩
end Go.Proofs.YtdfihaabhichdaaGreat
