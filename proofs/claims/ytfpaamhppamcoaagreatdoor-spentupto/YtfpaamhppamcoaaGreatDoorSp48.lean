/- Spent answers true and leaves its input as it was, for every input of bulk at most the bound of its row. -/
import Derived.Test.YtfpaamhppamcoaaGreatDoorSp47
set_option linter.all false
set_option maxRecDepth 100000
namespace Go.Proofs.YtfpaamhppamcoaaGreatDoor
open Go.Proofs.Tryz
section
open Go.Lib Go.RowKit Go.ChangeShapes
def litsOf (d:DataW Unit):List Int:=match d with
 |.agg ps=>ps.map λp=>match p with|.lit (.int _ z)=>z|_=>0
 |_=>[]
theorem db32_laid:(Rows.laid_math_bits_deBruijn32tab:DataW Unit)=tabData .u8 (litsOf Rows.laid_math_bits_deBruijn32tab):=by kernel_rfl
theorem tab_ints {w}{n}{g}{k}{zs}(c:prog.globalNamed n=some g)(h:TabIs prog w n k zs):∃xs e f,w.heap[g]? =some (.cells xs e f)/\∀v∈xs.toList,∃k n,v=.int k n:=by
 unfold TabIs World.var? at h;rw[c]at h;simp only[Option.bind_some]at h;cases b:w.heap[g]? with
 |none=>rw[b]at h;cases h
 |some o=>
  rw[b]at h;cases o with
  |cells cs e f=>
   simp only[Option.some.injEq]at h;refine⟨cs,e,f,rfl,λv a=>?_⟩;rw[h]at a;simp only[List.mem_map]at a;obtain⟨z,_,rfl⟩:=a;exact⟨_,_,rfl⟩
  |_=>cases h
theorem accept_ints {w}(b:w.ShapedOpen prog)(h:Utf8Tabs 4 5 w):∃xs e f,w.heap[(5:Nat)]? =some (.cells xs e f)/\∀v∈xs.toList,∃k n,v=.int k n:=by
 have a:((((begin prog (λ_ _=>0) default).world.heap[(5:Nat)]?).bind Obj.row?).map λx=>x.1.size)=some 32:=by kernel_rfl
 cases e:((begin prog (λ_ _=>0) default).world.heap[(5:Nat)]?).bind Obj.row? with
 |none=>rw[e]at a;cases a
 |some x=>
  obtain⟨zero,t⟩:=x;rw[e]at a;have l:zero.size=32:=Option.some.inj a;obtain⟨cs,hc,hs,_⟩:=b.1 _ zero t (by rw[show prog.globals.size=14 by kernel_rfl];decide) e;refine⟨cs,_,_,hc,λv g=>?_⟩;obtain⟨i,d,c⟩:=List.getElem_of_mem g;have j:i<32:=by rw[Array.length_toList]at d;omega
  have hcell:w.cell? ⟨5,i,none⟩=some v:=by
   rw[(blk hc).1 i,<-Array.getElem?_toList,ZT d,c]
  have hu:=h.2 (i/2) (by omega);rcases(show i=2*(i/2)\/i=2*(i/2)+1 by omega)with e|e
  .rw[e,hu.1]at hcell
   exact⟨_,_,(Option.some.inj hcell).symm⟩
  .rw[e,hu.2]at hcell
   exact⟨_,_,(Option.some.inj hcell).symm⟩
end
section
open Go Go.ChangeShapes Go.WideShapes Go.ChangeAt Go.RowKit Go.Conc Go.Lib
theorem ownKnobK:ownKnob prog.godebug=none:=by kernel_rfl
theorem globals_leK {w:World}(h:w.ShapedOpen prog):prog.globals.size<=w.heap.size:=by
 obtain⟨b,_⟩:=h;have a:prog.globals.size=14:=by kernel_rfl
 have hs:(((begin prog (λ_ _=>0) default).world.heap[13]?).bind Obj.row?).isSome=true:=by kernel_rfl
 obtain⟨⟨zero,t⟩,e⟩:=Option.isSome_iff_exists.1 hs;obtain⟨cs,hc,_⟩:=b 13 zero t (by rw[a];omega) e;have:=(ZK.1 hc).1;omega
theorem envX_of_mem {w}(hs:prog.globals.size<=w.heap.size)(f:w.ShapedOpen prog)(h:laidMet prog Rows.widthsUptoRow.laid w.memory):EnvX w (CB w)/\∃a,w.cell? ⟨0,0,none⟩=some (.iface 345 (.pointer (some a)))/\CB w a.block:=by
 have q:VarReads prog w.memory "internal/strconv.uint64pow10" Rows.laid_internal_strconv_uint64pow10:=laidMet.reads h (by simp[Rows.widthsUptoRow]);have l:VarReads prog w.memory "unicode/utf8.first" Rows.laid_unicode_utf8_first:=laidMet.reads h (by simp[Rows.widthsUptoRow])
 have p:VarReads prog w.memory "unicode/utf8.acceptRanges" Rows.laid_unicode_utf8_acceptRanges:=laidMet.reads h (by simp[Rows.widthsUptoRow]);have k:VarReads prog w.memory "math/bits.deBruijn64tab" Rows.laid_math_bits_deBruijn64tab:=laidMet.reads h (by simp[Rows.widthsUptoRow]);have m:VarReads prog w.memory "math/bits.deBruijn32tab" Rows.laid_math_bits_deBruijn32tab:=laidMet.reads h (by simp[Rows.widthsUptoRow]);have b:=envT_of_laid (w:=w.memory) hs q l p k;have env:gY w:=⟨b.size,b.pow,b.utf,b.db64⟩;obtain⟨a,k1,o⟩:=errFailed_of_laid h;have d:w.cell? ⟨0,0,none⟩=some (.iface 345 (.pointer (some a))):=k1;have c:CB w a.block:=o;refine⟨⟨env,λg j=>?_,λg j=>?_,all_cb f⟩,a,d,c⟩
 .have e:g=0:=List.mem_singleton.1 j
  subst e;exact⟨_,a,d,by decide,c⟩
 .have i:g=4\/g=5\/g=12\/g=13:=by
   have:g∈[4,5,12,13]:=j;simpa using this
  rcases i with rfl|rfl|rfl|rfl
  .rw[first_laid]at l
   have t:=tab_ints (w:=w.memory) (n:= "unicode/utf8.first") (g:=4) (by kernel_rfl) (gZ (g:=4) (t:=316) (e:=5) (N:=256) (by kernel_rfl) (by kernel_rfl) (by kernel_rfl) (by kernel_rfl) (by kernel_rfl) (by kernel_rfl) l);exact t
  .exact accept_ints f env.utf
  .rw[db32_laid]at m
   have t:=tab_ints (w:=w.memory) (n:= "math/bits.deBruijn32tab") (g:=12) (by kernel_rfl) (gZ (g:=12) (t:=342) (e:=5) (N:=32) (by kernel_rfl) (by kernel_rfl) (by kernel_rfl) (by kernel_rfl) (by kernel_rfl) (by kernel_rfl) m);exact t
  .rw[db64_laid]at k
   have t:=tab_ints (w:=w.memory) (n:= "math/bits.deBruijn64tab") (g:=13) (by kernel_rfl) (gZ (g:=13) (t:=343) (e:=5) (N:=64) (by kernel_rfl) (by kernel_rfl) (by kernel_rfl) (by kernel_rfl) (by kernel_rfl) (by kernel_rfl) k);exact t
end
section
open Go Go.ChangeShapes Go.WideShapes Go.ChangeAt Go.RowKit Go.Conc Go.ConcN Go.Deep Go.Joins Go.Lib
theorem spent_contract (H:Type)(enc:TypeId×Value->H)(W:World)(base:Nat)(args:Array Value)(ds gs:List (DataW H))(before:List MemPlace)(I:EnvX W (CB W))(a:Addr)(hF:W.cell? ⟨0,0,none⟩=some (.iface 345 (.pointer (some a))))(u:CB W a.block)(F:prog.globals.size<=W.heap.size)
 (b:∀(j:Nat) t v,Tryz.f6.params[j]? =some t->args[j]? =some v->Value.okWide prog W .any base t v)
 (hW:DataW.Whole enc prog Tryz.f6.params.toList Rows.spentSpec.vars false W args.toList ds gs before)
 (e:(DataW.weightsEach prog (Tryz.f6.params.toList++Rows.spentSpec.plain.varTypes prog) (ds++gs)).all (·<=reachBytes)=true)
 (B:Rows.uptoSmall H (ds++gs)=true):
 ∃N last o w' i,runNT prog (N+1) (solo (G (Frame.enter prog 6 args .normal) []) W) #[]=(.ended o w',i)/\runN prog N (solo (G (Frame.enter prog 6 args .normal) []) W)=.next last/\
  step prog last=.ended o w'/\Conc.Good prog (λv J=>Rows.spentSpec.post enc prog Tryz.f6 false true false false W args v J) last o w' i:=by
 have d:=hW;obtain⟨p,q,g,D,rfl,_,_⟩:=hW;have hA:DataW.TrodAll enc prog W 0 (λ_=>true) true Tryz.f6.params.toList args.toList ds p:=g;have hval:=b;rw[params6]at hA hval e;obtain⟨v0,v1,d0,d1,p0,w,rfl,rfl,rfl,z,y⟩:=trodAll_two hA;obtain⟨rfl,rfl⟩:=trodVars_none D;have k:∀x∈d0.weights prog 25,x<=reachBytes:=λx hx=>of_decide_eq_true (ZU.1 e x (DataW.weights_mem_each (j:=0) rfl rfl x hx))
 obtain⟨m,rfl,hm,r,hp⟩:=machW_of_trod (hval 0 25 v0 rfl rfl) z k
 have s:Rows.uptoBulk d1<=1048576:=by
  have h:=of_decide_eq_true B;simp only[List.append_nil,Rows.uptoBulkAll]at h;omega
 obtain⟨so,n,cap,T,rfl,E,hc,hd⟩:=scriptK_of_trod (hval 1 26 v1 rfl rfl) y s;obtain⟨C,hb⟩:=machK_cb (hval 0 25 m.val rfl rfl);clear g b;simp only[List.append_nil]at d;have f:∀x∈p0++w,x.block<W.heap.size:=λx hx=>by simpa using d.lt x hx
 obtain⟨N,last,o,w',i,g1,g2,g3,g4⟩:=spent_good m so n cap T a W I hm r hp E hF u F (λx hx=>.inl (C x hx)) (λx hx=>.inl (hb x hx)) hc hd;refine⟨N,last,o,w',i,g1,g2,g3,?_⟩;obtain⟨v,A,⟨l,hb⟩,c⟩:=g4;refine⟨v,A,?_,c⟩;subst l;refine⟨_,_,_,[],p0++w,[],d,?_,?_,rfl,hb.frame _,λh=>by cases h⟩
 .exact trodAll_mk1 (shut_bool underlying4 true)
 .exact trodAll_cons_mk (Below.trod laidOutK (by kernel_rfl) (of_decide_eq_true (by kernel_rfl)) z hb λx hx=>f x (List.mem_append_left _ hx))
   (trodAll_mk1 (Below.trod laidOutK (by kernel_rfl) (of_decide_eq_true (by kernel_rfl)) y hb λx hx=>f x (List.mem_append_right _ hx)))
def SpentStart (os:Os)(H:Type)(enc:TypeId×Value->H):Prop:=
    ∃(w:World) (tape:Tape) (i:Input),w.os=os/\(w.forCall tape i).Shaped Tryz.checked.prog/\i.vars=[]/\Input.okWide Tryz.checked.prog (w.forCall tape i) .any w.heap.size 6 i/\
     (((Rows.OpenSpec.upto Rows.spentSpec).pre enc Tryz.checked.prog Tryz.f6 [] false (w.forCall tape i).memory i.args/\laidMetH prog Rows.spentUptoRow.laid (w.forCall tape i).memory)/\sizedMet enc Tryz.checked.prog Tryz.f6 (Rows.OpenSpec.upto Rows.spentSpec) false (w.forCall tape i).memory i.args)/\
     ({}:Assume).holds Tryz.checked.prog (lone (Frame.enter Tryz.checked.prog 6 i.args .normal) [] (w.forCall tape i))
theorem spent_lifted (os:Os)(started:os.Started)(H:Type)(enc:TypeId×Value->H)(F:Stop.Interp)(d:SpentStart os H enc):
 ReturnsInLeavingWide {} Tryz.checked os 6 .any (λw args=>((Rows.OpenSpec.upto Rows.spentSpec).pre enc prog Tryz.f6 [] false w args/\laidMetH prog Rows.spentUptoRow.laid w)/\sizedMet enc prog Tryz.f6 (Rows.OpenSpec.upto Rows.spentSpec) false w args)
  (((Rows.OpenSpec.upto Rows.spentSpec).at F).post enc prog Tryz.f6 false true false false):=by
 refine returnsInLeavingWide_of_good (C:=Tryz.checked) ownKnobK started d ?_;intro w tape i _ b _ l f _;obtain⟨_,_,_,m,g,_,_,_,_,hval⟩:=l;have e:m=Tryz.f6:=Option.some.inj (g.symm.trans func6);subst e;obtain⟨⟨j,n⟩,r⟩:=f;rw[MakeChecks.laidMetH_plain _ _ _ (by kernel_rfl)]at n;obtain⟨x,a,k1,q⟩:=envX_of_mem (globals_leK b) b n;obtain⟨ds,gs,before,hw,_,u⟩:=(OpenSpec.pre_some (s:=Rows.OpenSpec.upto Rows.spentSpec) (k:=Rows.uptoSmall) rfl _ _ _ _).1 j;have h:=DataW.Whole.of_heap (w':=w.forCall tape i) (by rfl) hw;obtain⟨N,last,o,w',p,g1,g2,g3,g4⟩:=spent_contract H enc (w.forCall tape i) w.heap.size i.args ds gs before x a k1 q (globals_leK b) hval h (r.weights hw) u;refine⟨N,last,o,w',p,g1,g2,g3,?_⟩;obtain⟨v,t,hp,c⟩:=g4;exact⟨v,t,ChangeSpec.post_blind hp,c⟩
end
section
open Go Go.ChangeShapes Go.WideShapes Go.ChangeAt Go.RowKit Go.Conc
def aat:Array Value:= #[.agg #[.slice none 0 0,.slice none 0 0,.int .i64 0],.slice none 0 0]
theorem spent_witness (os:Os)(H:Type)(enc:TypeId×Value->H):SpentStart os H enc:=by
 have a:Input.okWideB Tryz.checked.prog (({World.settled prog os with heap:=iJ (World.settled prog os).heap}:World).forCall (λ_ _=>0) ⟨#[],aat,[]⟩) 6 ⟨#[],aat,[]⟩=true:=by kernel_rfl
 have hx:DataW.whole enc Tryz.checked.prog (({World.settled prog os with heap:=iJ (World.settled prog os).heap}:World).forCall (λ_ _=>0) ⟨#[],aat,[]⟩).memory (Func.params Tryz.f6).toList Rows.spentSpec.vars false aat.toList 8=some ([.agg [.nil,.nil,.lit (.int .i64 0)],.nil],[],[]):=by kernel_rfl
 have b:Rows.spentSpec.sizedB enc Tryz.checked.prog Tryz.f6 false (({World.settled prog os with heap:=iJ (World.settled prog os).heap}:World).forCall (λ_ _=>0) ⟨#[],aat,[]⟩).memory aat 8=true:=by kernel_rfl
 refine⟨{World.settled prog os with heap:=iJ (World.settled prog os).heap},λ_ _=>0,⟨#[],aat,[]⟩,rfl,tabled_shaped os _,(Input.okWide_of_okWideB (base:=0) a).1,(Input.okWide_of_okWideB a).2,
  ⟨⟨(OpenSpec.pre_some (s:=Rows.OpenSpec.upto Rows.spentSpec) (k:=Rows.uptoSmall) rfl [] false _ _).2 ⟨_,_,_,DataW.Whole_of_whole hx,rfl,by kernel_rfl⟩,tabled_met os _⟩,sizedMet_of_sizedB b⟩,?_⟩
 simp only[Assume.holds];exact⟨by simp,by simp,λ_=>Modest.zero,by simp,by simp⟩
theorem spent_said:Rows.SpentUptoSaid:=
 mZ 6 Tryz.f6 rfl rfl rfl rfl rfl rfl rfl ⟨rfl,rfl,rfl,rfl,rfl⟩ rfl rfl rfl rfl rfl (by kernel_rfl) func6 spentUpto_closed
  (of_decide_eq_true (by kernel_rfl)) (by unfold Func.isWrapper;first|(rw[if_pos (by decide+kernel)];kernel_rfl)|(rw[if_neg (by decide+kernel)];exact⟨rfl,rfl⟩))
  (λos started H enc _ F=>spent_lifted os started H enc F (spent_witness os H enc))
theorem spent_plain (f:FuncId)(fn:Func)(hf:Tryz.pinned.checked.prog.funcNamed "berth/berthkeep.Spent" =some f)(a:Tryz.pinned.checked.prog.funcs[f]? =some fn):
 true=Tryz.pinned.checked.prog.looks []/\∀(j:Nat) t,fn.params[j]? =some t->Tryz.pinned.checked.prog.wantsStandIn t=false:=by
 obtain rfl:f=6:=Option.some.inj ((show prog.funcNamed "berth/berthkeep.Spent" =some 6 by kernel_rfl).symm.trans hf)|>.symm
 obtain rfl:fn=Tryz.f6:=(Option.some.inj (func6.symm.trans a)).symm;refine⟨by kernel_rfl,λj t b=>?_⟩;rw[params6]at b;have hm:=Array.mem_of_getElem? b;simp only[List.mem_toArray,ZW,List.not_mem_nil,or_false]at hm;rcases hm with rfl|rfl
 .exact(show prog.wantsStandIn 25=false by kernel_rfl)
 .exact(show prog.wantsStandIn 26=false by kernel_rfl)
theorem spent_wf:Rows.spentUptoRow.wfByText (Rows.OpenSpec.upto Rows.spentSpec)=true:=by kernel_rfl
theorem spent_goes:true=Rows.spentUptoRow.goesBy Tryz.pinned.checked.prog:=by kernel_rfl
theorem spent_main:Tryz.pinned.checked.prog.mainIs=some (Rows.spentUptoCard.stood.harness.1,Rows.spentUptoCard.stood.harness.2.toList):=by kernel_rfl
theorem spentUpto_card:Rows.SpentUptoCardSaid:=
 ⟨Claim7.tied_new_at .later Rows.spentUptoCard.laidKinds true (Claim7.new_of_sixth spent_said _ _ rfl ⟨rfl,rfl⟩ spent_main rfl spent_plain) spent_wf,(λ_ h=>(by cases h)),wid_tie,(λh=>(by cases h)),spent_goes⟩
end
