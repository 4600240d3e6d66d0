// Package rules_test holds every call that the chapters list to the rules that
// hold everywhere: P1 to P4 of the document.
package rules_test

import (
	"math"
	"reflect"
	"strings"
	"testing"

	"sough/analyze"
	"sough/api"
	"sough/avail"
	"sough/bound"
	"sough/cell"
	"sough/chain"
	"sough/client"
	"sough/constant"
	"sough/deque"
	"sough/desk"
	"sough/dom"
	"sough/exec"
	"sough/fair"
	"sough/flow"
	"sough/fold"
	"sough/gauss"
	"sough/grammar"
	"sough/lattice"
	"sough/layout"
	"sough/least"
	"sough/linear"
	"sough/live"
	"sough/loops"
	"sough/mem"
	"sough/order"
	"sough/paths"
	"sough/plays"
	"sough/printer"
	"sough/prop"
	"sough/proper"
	"sough/prune"
	"sough/queue"
	"sough/reach"
	"sough/record"
	"sough/render"
	"sough/sample"
	"sough/scc"
	"sough/sched"
	"sough/share"
	"sough/solve"
	"sough/step"
	"sough/sweep"
	"sough/system"
	"sough/tables"
	"sough/threads"
	"sough/ticket"
	"sough/tidy"
	"sough/token"
	"sough/transfer"
	"sough/trips"
	"sough/watch"
	"sough/why"
	"sough/wordset"
	"sough/worker"
)

// calls are all functions that the chapters list.
var calls = []struct {
	name string
	f    any
}{
	{"gauss.Wrap", gauss.Wrap},
	{"gauss.Of", gauss.Of},
	{"gauss.Is", gauss.Is},
	{"gauss.Add", gauss.Add},
	{"gauss.Sub", gauss.Sub},
	{"gauss.Mul", gauss.Mul},
	{"gauss.Conj", gauss.Conj},
	{"gauss.Op", gauss.Op},
	{"gauss.Text", gauss.Text},
	{"gauss.Word", gauss.Word},
	{"gauss.Unword", gauss.Unword},
	{"token.Word", token.Word},
	{"token.Name", token.Name},
	{"token.Of", token.Of},
	{"token.Show", token.Show},
	{"grammar.Parse", grammar.Parse},
	{"grammar.Expr", grammar.Expr},
	{"proper.Check", proper.Check},
	{"proper.Same", proper.Same},
	{"proper.Clone", proper.Clone},
	{"proper.Vars", proper.Vars},
	{"proper.Stmts", proper.Stmts},
	{"proper.Atoms", proper.Atoms},
	{"printer.Atom", printer.Atom},
	{"printer.Expr", printer.Expr},
	{"printer.Stmt", printer.Stmt},
	{"printer.Term", printer.Term},
	{"printer.Program", printer.Program},
	{"tables.Block", tables.Block},
	{"tables.Var", tables.Var},
	{"tables.Sites", tables.Sites},
	{"tables.Exprs", tables.Exprs},
	{"tables.SiteName", tables.SiteName},
	{"tables.ExprName", tables.ExprName},
	{"flow.Edges", flow.Edges},
	{"flow.Next", flow.Next},
	{"flow.Back", flow.Back},
	{"flow.Reverse", flow.Reverse},
	{"flow.Sorted", flow.Sorted},
	{"flow.Reached", flow.Reached},
	{"flow.Exits", flow.Exits},
	{"flow.Right", flow.Right},
	{"exec.Start", exec.Start},
	{"exec.Value", exec.Value},
	{"exec.Eval", exec.Eval},
	{"exec.Block", exec.Block},
	{"exec.Go", exec.Go},
	{"exec.From", exec.From},
	{"exec.All", exec.All},
	{"trips.Last", trips.Last},
	{"trips.Known", trips.Known},
	{"trips.Blocks", trips.Blocks},
	{"wordset.Size", wordset.Size},
	{"wordset.Of", wordset.Of},
	{"wordset.Full", wordset.Full},
	{"wordset.Has", wordset.Has},
	{"wordset.List", wordset.List},
	{"wordset.Len", wordset.Len},
	{"wordset.Union", wordset.Union},
	{"wordset.Inter", wordset.Inter},
	{"wordset.Minus", wordset.Minus},
	{"wordset.Within", wordset.Within},
	{"wordset.Fits", wordset.Fits},
	{"constant.Of", constant.Of},
	{"constant.Num", constant.Num},
	{"constant.Is", constant.Is},
	{"constant.Join", constant.Join},
	{"constant.Below", constant.Below},
	{"constant.Rank", constant.Rank},
	{"constant.Op", constant.Op},
	{"constant.Text", constant.Text},
	{"lattice.Words", lattice.Words},
	{"lattice.Bottom", lattice.Bottom},
	{"lattice.Top", lattice.Top},
	{"lattice.Is", lattice.Is},
	{"lattice.Word", lattice.Word},
	{"lattice.Join", lattice.Join},
	{"lattice.Below", lattice.Below},
	{"lattice.Rank", lattice.Rank},
	{"lattice.Height", lattice.Height},
	{"scc.Of", scc.Of},
	{"scc.Which", scc.Which},
	{"scc.Between", scc.Between},
	{"scc.Round", scc.Round},
	{"order.Post", order.Post},
	{"order.Ranks", order.Ranks},
	{"order.All", order.All},
	{"order.Is", order.Is},
	{"share.Owners", share.Owners},
	{"share.Seeds", share.Seeds},
	{"share.Loads", share.Loads},
	{"transfer.Check", transfer.Check},
	{"transfer.Apply", transfer.Apply},
	{"transfer.Then", transfer.Then},
	{"transfer.Same", transfer.Same},
	{"system.Check", system.Check},
	{"system.Start", system.Start},
	{"system.Out", system.Out},
	{"system.Bottom", system.Bottom},
	{"system.Step", system.Step},
	{"system.Below", system.Below},
	{"system.Solves", system.Solves},
	{"system.Reverse", system.Reverse},
	{"system.Clone", system.Clone},
	{"least.Iterate", least.Iterate},
	{"least.Solve", least.Solve},
	{"least.Outs", least.Outs},
	{"least.Same", least.Same},
	{"queue.Solve", queue.Solve},
	{"queue.MostJoins", queue.MostJoins},
	{"queue.MostEvals", queue.MostEvals},
	{"paths.Is", paths.Is},
	{"paths.Along", paths.Along},
	{"paths.All", paths.All},
	{"paths.Meet", paths.Meet},
	{"why.Born", why.Born},
	{"why.Passes", why.Passes},
	{"why.Begins", why.Begins},
	{"why.Has", why.Has},
	{"why.Check", why.Check},
	{"why.Find", why.Find},
	{"mem.NewPlain", mem.NewPlain},
	{"mem.NewShared", mem.NewShared},
	{"mem.Or", mem.Or},
	{"mem.All", mem.All},
	{"record.New", record.New},
	{"record.Right", record.Right},
	{"record.Touched", record.Touched},
	{"record.Writes", record.Writes},
	{"step.New", step.New},
	{"sched.Who", sched.Who},
	{"sched.Run", sched.Run},
	{"sched.Finished", sched.Finished},
	{"sched.Each", sched.Each},
	{"fair.Is", fair.Is},
	{"fair.Window", fair.Window},
	{"fair.Round", fair.Round},
	{"fair.Weave", fair.Weave},
	{"fair.Text", fair.Text},
	{"fair.Parse", fair.Parse},
	{"deque.Words", deque.Words},
	{"plays.Right", plays.Right},
	{"plays.Run", plays.Run},
	{"plays.Whole", plays.Whole},
	{"linear.Ahead", linear.Ahead},
	{"linear.Fits", linear.Fits},
	{"linear.Find", linear.Find},
	{"layout.Of", layout.Of},
	{"worker.New", worker.New},
	{"solve.Fill", solve.Fill},
	{"solve.Values", solve.Values},
	{"solve.Run", solve.Run},
	{"solve.At", solve.At},
	{"bound.Joins", bound.Joins},
	{"bound.Evals", bound.Evals},
	{"bound.Work", bound.Work},
	{"bound.Picks", bound.Picks},
	{"watch.Safe", watch.Safe},
	{"watch.Rises", watch.Rises},
	{"watch.First", watch.First},
	{"watch.Touches", watch.Touches},
	{"watch.Once", watch.Once},
	{"threads.Run", threads.Run},
	{"threads.Draws", threads.Draws},
	{"live.Uses", live.Uses},
	{"live.System", live.System},
	{"live.Sets", live.Sets},
	{"live.Is", live.Is},
	{"reach.System", reach.System},
	{"reach.Sets", reach.Sets},
	{"reach.Of", reach.Of},
	{"avail.System", avail.System},
	{"avail.Sets", avail.Sets},
	{"prop.Codes", prop.Codes},
	{"prop.System", prop.System},
	{"prop.Sets", prop.Sets},
	{"prop.At", prop.At},
	{"client.Name", client.Name},
	{"client.Kind", client.Kind},
	{"client.System", client.System},
	{"client.Words", client.Words},
	{"client.Report", client.Report},
	{"client.Same", client.Same},
	{"render.Right", render.Right},
	{"render.Text", render.Text},
	{"render.Parse", render.Parse},
	{"analyze.Analyze", analyze.Analyze},
	{"analyze.Plain", analyze.Plain},
	{"analyze.Of", analyze.Of},
	{"analyze.PlainOf", analyze.PlainOf},
	{"analyze.Most", analyze.Most},
	{"fold.Atom", fold.Atom},
	{"fold.Expr", fold.Expr},
	{"fold.Program", fold.Program},
	{"fold.Count", fold.Count},
	{"sweep.Idle", sweep.Idle},
	{"sweep.Program", sweep.Program},
	{"sweep.Whole", sweep.Whole},
	{"prune.Ends", prune.Ends},
	{"prune.Program", prune.Program},
	{"prune.Merge", prune.Merge},
	{"chain.Uses", chain.Uses},
	{"chain.From", chain.From},
	{"chain.To", chain.To},
	{"chain.Unused", chain.Unused},
	{"chain.Fresh", chain.Fresh},
	{"tidy.Once", tidy.Once},
	{"tidy.Program", tidy.Program},
	{"tidy.Weight", tidy.Weight},
	{"tidy.Better", tidy.Better},
	{"desk.New", desk.New},
	{"desk.Play", desk.Play},
	{"desk.Num", desk.Num},
	{"desk.Int", desk.Int},
	{"dom.System", dom.System},
	{"dom.All", dom.All},
	{"dom.Over", dom.Over},
	{"dom.Above", dom.Above},
	{"dom.Depth", dom.Depth},
	{"loops.Back", loops.Back},
	{"loops.Of", loops.Of},
	{"loops.Depth", loops.Depth},
	{"loops.Clean", loops.Clean},
}

// objects are made, and then asked by all their methods.
func objects(d *sample.Dice) []any {
	s := d.Any()
	l, _ := layout.Of(s, 1+d.Below(3))
	w, _ := worker.New(s, l, 0)
	m := mem.NewPlain(d.Below(9))
	box := deque.Deque{Base: some(d), Cap: some(d)}
	board := ticket.Board{Flags: some(d), Count: some(d)}
	where := cell.Cell{Base: some(d), What: d.Below(5), Words: d.Below(4) - 1}
	return []any{
		(*mem.Plain)(nil), new(mem.Plain), m, (*mem.Shared)(nil), new(mem.Shared), mem.NewShared(d.Below(5)),
		(*record.Log)(nil), new(record.Log), record.New(nil), record.New(m),
		(*step.Prog)(nil), new(step.Prog), step.New([]step.Instr{{Op: d.Below(11), R: some(d), At: some(d)}, {Op: d.Below(11), R: some(d), At: d.Below(3)}}),
		box, deque.Deque{}, (*deque.Push)(nil), &deque.Push{D: box}, (*deque.Pop)(nil), &deque.Pop{D: box}, (*deque.Steal)(nil), &deque.Steal{D: box},
		where, cell.Cell{}, (*cell.Join)(nil), &cell.Join{C: where, A: []uint64{1}}, (*cell.Read)(nil), &cell.Read{C: where},
		board, (*ticket.Take)(nil), &ticket.Take{B: board, V: some(d)}, (*ticket.Clear)(nil), &ticket.Clear{B: board, V: some(d)},
		(*ticket.Retire)(nil), &ticket.Retire{B: board}, (*ticket.Quiet)(nil), &ticket.Quiet{B: board},
		l, layout.Layout{}, layout.Layout{What: some(d), Words: some(d), Nodes: some(d), Workers: some(d)},
		(*worker.Worker)(nil), new(worker.Worker), w, (*desk.Desk)(nil), new(desk.Desk), desk.New(text(d)),
	}
}

// some tells a number at an edge, or a small one.
func some(d *sample.Dice) int {
	edges := []int{math.MinInt, math.MaxInt, -1, 64, 65, 256, 257, 1024, 1025, 4096, 4097, 1 << 20, 32767, 32768, -32768, -32769, 1<<31 - 1, 1 << 31}
	if d.Below(4) == 0 {
		return edges[d.Below(len(edges))]
	}
	return d.Below(6)
}

func text(d *sample.Dice) string {
	texts := []string{"", "x", "v0", "b0", "if", "5", "-5", "(1,-2)", "1:2 3:-4", "a\xff\x00", "ä", "live", "const", "report live\nblock a\nin x\nend\n", "print", "tidy", "run 5 1 2", "solve live 1 0:0", "v0 + 1",
		"block b0 { in v0; v1 = v0 * 2; out v1; if v1 then b0 else b1; } block b1 { ret; }", "block a { goto b; }"}
	return texts[d.Below(len(texts))]
}

// value tells some value of a type, mostly one that means something.
func value(d *sample.Dice, t reflect.Type) reflect.Value {
	if v, is := meant(d, t); is {
		return v
	}
	v := reflect.New(t).Elem()
	switch t.Kind() {
	case reflect.Int:
		v.SetInt(int64(some(d)))
	case reflect.Uint64:
		v.SetUint([]uint64{0, 1, 2, 6, uint64(d.Below(99)), d.Word()}[d.Below(6)])
	case reflect.Bool:
		v.SetBool(d.Below(2) == 0)
	case reflect.String:
		v.SetString(text(d))
	case reflect.Slice:
		if d.Below(8) == 0 {
			return v
		}
		n := d.Below(4)
		long := reflect.MakeSlice(t, n+2, n+2)
		for i := range n + 2 {
			long.Index(i).Set(value(d, t.Elem()))
		}
		return long.Slice(0, n)
	case reflect.Struct:
		for i := range t.NumField() {
			if t.Field(i).IsExported() {
				v.Field(i).Set(value(d, t.Field(i).Type))
			}
		}
	case reflect.Array:
		for i := range t.Len() {
			v.Index(i).Set(value(d, t.Elem()))
		}
	}
	return v
}

// meant tells values that mean something, of types of which others mostly don't.
func meant(d *sample.Dice, t reflect.Type) (reflect.Value, bool) {
	var x any
	often := d.Below(5) > 0
	switch t {
	case reflect.TypeFor[mem.Mem]():
		l := []mem.Mem{nil, (*mem.Plain)(nil), (*mem.Shared)(nil), (*record.Log)(nil), mem.NewPlain(d.Below(40)), mem.NewShared(d.Below(40)), record.New(mem.NewPlain(9))}
		v := reflect.New(t).Elem()
		if m := l[d.Below(len(l))]; m != nil {
			v.Set(reflect.ValueOf(m))
		}
		return v, true
	case reflect.TypeFor[step.Machine]():
		l := []step.Machine{nil, (*step.Prog)(nil), (*deque.Pop)(nil), &deque.Push{}, step.New([]step.Instr{{Op: step.Draw}, {Op: step.Store}, {Op: step.Jump}})}
		v := reflect.New(t).Elem()
		if m := l[d.Below(len(l))]; m != nil {
			v.Set(reflect.ValueOf(m))
		}
		return v, true
	case reflect.TypeFor[func(i int)]():
		x = func(i int) {}
	case reflect.TypeFor[api.Program]():
		x = d.Program(1+d.Below(4), 5, 1+d.Below(3))
	case reflect.TypeFor[api.System]():
		x = d.Any()
	case reflect.TypeFor[layout.Layout]():
		l, _ := layout.Of(d.Any(), 1+d.Below(3))
		return reflect.ValueOf(l), true
	case reflect.TypeFor[[]api.Pick]():
		x = d.Script(4, d.Below(300))
	case reflect.TypeFor[[]api.Edge]():
		x = d.Edges(4, d.Below(6))
	case reflect.TypeFor[[]uint64]():
		x = d.Value(1+d.Below(3), d.Below(4))
	default:
		return reflect.Value{}, false
	}
	return reflect.ValueOf(x), often
}

// copied tells a copy of a value with all that its lists share, also behind
// their lengths; what pointers and interfaces stand for stays.
func copied(v reflect.Value) reflect.Value {
	out := reflect.New(v.Type()).Elem()
	switch v.Kind() {
	case reflect.Slice:
		if v.IsNil() {
			return out
		}
		long := reflect.MakeSlice(v.Type(), v.Cap(), v.Cap())
		for i := range v.Cap() {
			long.Index(i).Set(copied(v.Slice(0, v.Cap()).Index(i)))
		}
		return long.Slice(0, v.Len())
	case reflect.Struct:
		out.Set(v)
		for i := range v.NumField() {
			if v.Type().Field(i).IsExported() {
				out.Field(i).Set(copied(v.Field(i)))
			}
		}
		return out
	}
	out.Set(v)
	return out
}

// alike tells whether two values are the same, nil lists as empty ones; with
// deep also in what stands behind the lists' lengths.
func alike(a, b reflect.Value, deep bool) bool {
	switch a.Kind() {
	case reflect.Slice:
		n := a.Len()
		if n != b.Len() {
			return false
		}
		if deep {
			n = a.Cap()
			a, b = a.Slice(0, n), b.Slice(0, n)
		}
		for i := range n {
			if !alike(a.Index(i), b.Index(i), deep) {
				return false
			}
		}
		return true
	case reflect.Struct:
		for i := range a.NumField() {
			if a.Type().Field(i).IsExported() && !alike(a.Field(i), b.Field(i), deep) {
				return false
			}
		}
		return true
	case reflect.Pointer, reflect.Interface, reflect.Func:
		return a.IsNil() == b.IsNil()
	}
	return a.Interface() == b.Interface()
}

// nothing tells whether a value is zero, nil lists as empty ones.
func nothing(v reflect.Value) bool { return alike(v, reflect.Zero(v.Type()), false) }

// turned tells a value whose lists that are nil are empty, and the other way round.
func turned(v reflect.Value) reflect.Value {
	out := copied(v)
	switch v.Kind() {
	case reflect.Slice:
		if v.IsNil() {
			return reflect.MakeSlice(v.Type(), 0, 0)
		}
		if v.Len() == 0 {
			return reflect.Zero(v.Type())
		}
		for i := range out.Len() {
			out.Index(i).Set(turned(out.Index(i)))
		}
	case reflect.Struct:
		for i := range v.NumField() {
			if v.Type().Field(i).IsExported() {
				out.Field(i).Set(turned(out.Field(i)))
			}
		}
	}
	return out
}

// span is the memory of a list, with what stands behind its length.
type span struct{ from, to uintptr }

func spans(v reflect.Value, l []span) []span {
	switch v.Kind() {
	case reflect.Slice:
		if size := v.Type().Elem().Size() * uintptr(v.Cap()); size > 0 {
			l = append(l, span{v.Pointer(), v.Pointer() + size})
		}
		for i := range v.Len() {
			l = spans(v.Index(i), l)
		}
	case reflect.Struct:
		for i := range v.NumField() {
			if v.Type().Field(i).IsExported() {
				l = spans(v.Field(i), l)
			}
		}
	}
	return l
}

// call calls f, and holds what comes of it to the rules.
func call(t *testing.T, name string, f reflect.Value, args []reflect.Value) []reflect.Value {
	defer func() {
		if r := recover(); r != nil {
			t.Fatalf("%s of %v: %v", name, args, r)
		}
	}()
	var kept []reflect.Value
	var given []span
	for _, a := range args {
		kept = append(kept, copied(a))
		given = spans(a, given)
	}
	ask := f.Call
	if f.Type().IsVariadic() {
		ask = f.CallSlice
	}
	out := ask(args)
	var told []span
	for _, x := range out {
		told = spans(x, told)
	}
	for i, a := range told { // P2
		for _, b := range append(told[i+1:len(told):len(told)], given...) {
			if a.from < b.to && b.from < a.to {
				t.Fatalf("%s of %v: memory is shared", name, args)
			}
		}
	}
	for i := range args {
		if !alike(args[i], kept[i], true) {
			t.Fatalf("%s of %v: changed, from %v", name, args, kept)
		}
	}
	zeros(t, name, args, out)
	return out
}

// zeros holds answers with an error, a fault, or false, to P4.
func zeros(t *testing.T, name string, args, out []reflect.Value) {
	if len(out) < 2 {
		return
	}
	last := out[len(out)-1]
	bad := false
	switch x := last.Interface().(type) {
	case api.Errno:
		bad = x != api.OK
	case api.Fault:
		bad = x.E != api.OK
		if !bad && x != (api.Fault{}) {
			t.Fatalf("%s of %v: no fault at %d", name, args, x.At)
		}
	case bool:
		bad = !x
	}
	for _, x := range out[:len(out)-1] {
		if bad && !nothing(x) {
			t.Fatalf("%s of %v: %v with %v", name, args, x, last)
		}
	}
}

// asks tells whether a value has memory or machines, which calls may change.
func asks(args []reflect.Value) bool {
	for _, a := range args {
		if a.Kind() == reflect.Interface || a.Type() == reflect.TypeFor[[]step.Machine]() {
			return true
		}
	}
	return false
}

func TestCalls(t *testing.T) { // P1, P2, P3, P4
	for _, c := range calls {
		f := reflect.ValueOf(c.f)
		many := 250
		if strings.HasPrefix(c.name, "fair.") || strings.HasPrefix(c.name, "exec.") { // their answers may be long
			many = 25
		}
		for seed := range many {
			d := sample.New(seed)
			var args, others []reflect.Value
			for i := range f.Type().NumIn() {
				a := value(d, f.Type().In(i))
				args = append(args, a)
				others = append(others, turned(a))
			}
			out := call(t, c.name, f, args)
			if asks(args) {
				continue
			}
			again := call(t, c.name, f, others)
			for i := range out {
				if !alike(out[i], again[i], false) {
					t.Fatalf("%s of %v: %v, then %v", c.name, args, out[i], again[i])
				}
			}
		}
	}
}

func TestMethods(t *testing.T) { // P1, P2, P4
	for seed := range 150 {
		d := sample.New(seed)
		for _, x := range objects(d) {
			v := reflect.ValueOf(x)
			for range 12 {
				i := d.Below(v.NumMethod())
				f := v.Method(i)
				var args []reflect.Value
				for k := range f.Type().NumIn() {
					args = append(args, value(d, f.Type().In(k)))
				}
				call(t, v.Type().String()+"."+v.Type().Method(i).Name, f, args)
			}
		}
	}
}
