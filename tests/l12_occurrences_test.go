package tests

import (
	"cmp"
	"encoding/binary"
	"fmt"
	"maps"
	"math"
	"math/rand"
	"reflect"
	"runtime/debug"
	"slices"
	"strings"
	"testing"

	"loop.example/g03107/impl"
)

// occurrencesByText answers as the text of the chapter does, sentence by sentence, for a valid signature.
type occurrencesByText struct{ matchesByText }

func occurrenceTextFor(s impl.Signature) occurrencesByText {
	return occurrencesByText{matchTextFor(s)}
}

// argsKey gives a string for each list of Args; the order of these strings is that of the lists, also with something behind them.
func argsKey(args []impl.Term) string {
	key := ""
	for _, arg := range args {
		key += "\x01" + orderKey(arg)
	}
	return key + "\x00"
}

func pathKey(path []int) string {
	key := []byte{}
	for _, i := range path {
		key = binary.BigEndian.AppendUint64(append(key, 1), uint64(i)^1<<63)
	}
	return string(append(key, 0))
}

// occurrenceKey gives a string for each occurrence; the order of these strings, byte by byte, is that of the occurrences.
func occurrenceKey(o impl.Occurrence) string {
	return pathKey(o.Path) + argsKey(o.Left) + argsKey(o.Right) + bindingsKey(o.Match)
}

func occurrenceKeys(list []impl.Occurrence) []string {
	keys := []string{}
	for _, o := range list {
		keys = append(keys, occurrenceKey(o))
	}
	return keys
}

// occurrenceText writes an occurrence, such as "0.1 [a, b] [] x:C = a".
func occurrenceText(s impl.Signature, o impl.Occurrence) string {
	text := strings.ReplaceAll(strings.Trim(fmt.Sprint(o.Path), "[]"), " ", ".")
	for _, args := range [][]impl.Term{o.Left, o.Right} {
		texts := []string{}
		for _, arg := range args {
			texts = append(texts, impl.FormatTerm(s, arg))
		}
		text += " [" + strings.Join(texts, ", ") + "]"
	}
	return strings.TrimSpace(text) + " " + impl.FormatSubstitution(s, o.Match)
}

// pathsOf gives the paths of all parts of a tree.
func pathsOf(t impl.Term) [][]int {
	paths := [][]int{{}}
	for i, arg := range t.Args {
		for _, path := range pathsOf(arg) {
			paths = append(paths, append([]int{i}, path...))
		}
	}
	return paths
}

func partAt(t impl.Term, path []int) (impl.Term, bool) {
	if len(path) == 0 {
		return t, true
	}
	if path[0] < 0 || path[0] >= len(t.Args) {
		return impl.Term{}, false
	}
	return partAt(t.Args[path[0]], path[1:])
}

// cutsOf gives what is left out where some of the Args are taken, but not one or all of them.
func (f occurrencesByText) cutsOf(op int, args []impl.Term) []impl.Occurrence {
	cuts := []impl.Occurrence{}
	if !f.s.Ops[op].Comm {
		for start := range args {
			for end := start + 2; end <= len(args); end++ {
				cuts = append(cuts, impl.Occurrence{Left: args[:start], Right: args[end:]})
			}
		}
	} else {
		for _, left := range sublists(args) {
			cuts = append(cuts, impl.Occurrence{Left: left})
		}
	}
	return slices.DeleteFunc(cuts, func(o impl.Occurrence) bool {
		left := len(o.Left) + len(o.Right)
		return left == 0 || left > len(args)-2
	})
}

// occurrences gives the occurrences of a pattern, with the matches that a function gives.
func (f occurrencesByText) occurrences(p, x impl.Term, matches func(p, x impl.Term) ([][]impl.Binding, bool)) ([]impl.Occurrence, bool) {
	if !f.isTerm(p) || !f.isTerm(x) || len(variablesByText(p)) > 5 {
		return nil, false
	}
	found := map[string]impl.Occurrence{}
	for _, path := range pathsOf(x) {
		part, _ := partAt(x, path)
		places := []impl.Occurrence{{}}
		if p.Op >= 0 && f.s.Ops[p.Op].Assoc && part.Op == p.Op {
			places = append(places, f.cutsOf(p.Op, part.Args)...)
		}
		for _, o := range places {
			o.Path = path
			taken, _ := f.taken(x, o)
			lists, ok := matches(p, taken)
			if !ok {
				return nil, false
			}
			for _, list := range lists {
				o.Match = list
				found[occurrenceKey(o)] = o
			}
		}
	}
	list := []impl.Occurrence{}
	for _, key := range slices.Sorted(maps.Keys(found)) {
		list = append(list, found[key])
	}
	if len(list) > 2000 {
		return nil, false
	}
	return list, true
}

func (f occurrencesByText) taken(x impl.Term, o impl.Occurrence) (impl.Term, bool) {
	part, ok := partAt(x, o.Path)
	if !f.isTerm(x) || !ok {
		return impl.Term{}, false
	}
	if len(o.Left) == 0 && len(o.Right) == 0 {
		return part, true
	}
	if part.Op == -1 || !f.s.Ops[part.Op].Assoc || len(part.Args) < len(o.Left)+len(o.Right)+2 {
		return impl.Term{}, false
	}
	left, right, args := keysOf(o.Left), keysOf(o.Right), keysOf(part.Args)
	if !f.s.Ops[part.Op].Comm {
		end := len(args) - len(right)
		fits := slices.Equal(args[:len(left)], left) && slices.Equal(args[end:], right)
		return f.ifTrue(fits, apply(part.Op, part.Args[len(left):end]...))
	}
	rest := slices.Clone(part.Args)
	for _, key := range left {
		i := slices.IndexFunc(rest, func(arg impl.Term) bool { return orderKey(arg) == key })
		if i < 0 {
			return impl.Term{}, false
		}
		rest = slices.Delete(rest, i, i+1)
	}
	return f.ifTrue(len(right) == 0 && slices.IsSorted(left), apply(part.Op, rest...))
}

func (f occurrencesByText) ifTrue(holds bool, t impl.Term) (impl.Term, bool) {
	if !holds {
		return impl.Term{}, false
	}
	return t, true
}

func (f occurrencesByText) replace(x impl.Term, o impl.Occurrence, u impl.Term) (impl.Term, bool) {
	if _, ok := f.taken(x, o); !ok || !f.isTerm(u) {
		return impl.Term{}, false
	}
	return f.rebuilt(x, o.Path, o, u)
}

func (f occurrencesByText) rebuilt(x impl.Term, path []int, o impl.Occurrence, u impl.Term) (impl.Term, bool) {
	if len(path) > 0 {
		inner, ok := f.rebuilt(x.Args[path[0]], path[1:], o, u)
		if !ok {
			return impl.Term{}, false
		}
		return f.makeTerm(x.Op, withArg(x, path[0], inner).Args)
	}
	if len(o.Left) == 0 && len(o.Right) == 0 {
		return u, true
	}
	return f.makeTerm(x.Op, slices.Concat(o.Left, []impl.Term{u}, o.Right))
}

func checkSubterm(t *testing.T, x impl.Term, path []int, want impl.Term, wantOk bool) {
	t.Helper()
	got, ok := impl.SubtermAt(x, path)
	if !isResult(got, ok, want, wantOk) {
		t.Fatalf("SubtermAt(%v, %v) = %v, %v, want %v, %v", x, path, got, ok, want, wantOk)
	}
}

func checkTaken(t *testing.T, s impl.Signature, x impl.Term, o impl.Occurrence, want impl.Term, wantOk bool) {
	t.Helper()
	got, ok := impl.TakenAt(s, x, o)
	if !isResult(got, ok, want, wantOk) {
		t.Fatalf("TakenAt(%+v, %v, %v) = %v, %v, want %v, %v", s, x, o, got, ok, want, wantOk)
	}
}

func checkReplace(t *testing.T, s impl.Signature, x impl.Term, o impl.Occurrence, u, want impl.Term, wantOk bool) {
	t.Helper()
	got, ok := impl.ReplaceOccurrence(s, x, o, u)
	if !isResult(got, ok, want, wantOk) {
		t.Fatalf("ReplaceOccurrence(%+v, %v, %v, %v) = %v, %v, want %v, %v", s, x, o, u, got, ok, want, wantOk)
	}
}

// checkPlace checks against the text what is taken, and what is put in its place; it tells whether there is such a place.
func checkPlace(t *testing.T, f occurrencesByText, x impl.Term, o impl.Occurrence, u impl.Term) bool {
	t.Helper()
	taken, there := f.taken(x, o)
	checkTaken(t, f.s, x, o, taken, there)
	want, ok := f.replace(x, o, u)
	checkReplace(t, f.s, x, o, u, want, ok)
	return there
}

// checkOccurrences checks OccurrencesOf, and what each occurrence takes: an instance of the pattern, which gives the term again if it is put back.
func checkOccurrences(t *testing.T, f occurrencesByText, p, x impl.Term, want []impl.Occurrence, wantOk bool) {
	t.Helper()
	got, ok := impl.OccurrencesOf(f.s, p, x)
	if ok != wantOk || !ok && got != nil || !slices.Equal(occurrenceKeys(got), occurrenceKeys(want)) {
		t.Fatalf("OccurrencesOf(%+v, %v, %v) = %v, %v, want %v, %v", f.s, p, x, got, ok, want, wantOk)
	}
	for _, o := range got {
		checkInstanceTaken(t, f, p, x, o)
	}
}

// checkInstanceTaken checks that what an occurrence takes is an instance of the pattern.
func checkInstanceTaken(t *testing.T, f occurrencesByText, p, x impl.Term, o impl.Occurrence) {
	t.Helper()
	taken, there := f.taken(x, o)
	if !there {
		t.Fatalf("%v does not fit %v in %+v", o, x, f.s)
	}
	checkTaken(t, f.s, x, o, taken, true)
	checkApply(t, f.s, o.Match, p, taken, true)
	checkIsMatch(t, f.s, p, taken, o.Match, true)
	checkReplace(t, f.s, x, o, taken, x, true)
}

// checkSameOccurrences checks OccurrencesOf against the text with the matches of MatchModulo, and gives the number of occurrences, -1 if there is no answer.
func checkSameOccurrences(t *testing.T, f occurrencesByText, p, x impl.Term) int {
	t.Helper()
	want, ok := f.occurrences(p, x, func(p, x impl.Term) ([][]impl.Binding, bool) { return impl.MatchModulo(f.s, p, x) })
	checkOccurrences(t, f, p, x, want, ok)
	if !ok {
		return -1
	}
	return len(want)
}

func checkNoOccurrences(t *testing.T, s impl.Signature, p, x impl.Term) {
	t.Helper()
	if got, ok := impl.OccurrencesOf(s, p, x); ok || got != nil {
		t.Fatalf("OccurrencesOf(%+v, %v, %v) = %v, %v", s, p, x, got, ok)
	}
}

func checkCompareOccurrences(t *testing.T, a, b impl.Occurrence, want int) {
	t.Helper()
	if got := impl.CompareOccurrences(a, b); got != want {
		t.Fatalf("CompareOccurrences(%v, %v) = %d, want %d", a, b, got, want)
	}
	if got := impl.CompareOccurrences(b, a); got != -want {
		t.Fatalf("CompareOccurrences(%v, %v) = %d, want %d", b, a, got, -want)
	}
}

func TestMaxOccurrences(t *testing.T) {
	if impl.MaxOccurrences != 2000 {
		t.Error(impl.MaxOccurrences)
	}
}

// occurrencesInOrder gives occurrences that are ascending, few of which are occurrences in a term.
func occurrencesInOrder() []impl.Occurrence {
	x, a, b := variableOf("x", 0), apply(0), apply(1)
	match := []impl.Binding{{Var: x, To: a}}
	all := impl.Occurrence{Left: []impl.Term{b}, Right: []impl.Term{b}, Match: match}
	withPath := func(path ...int) impl.Occurrence {
		return impl.Occurrence{Path: path, Left: all.Left, Right: all.Right, Match: all.Match}
	}
	return []impl.Occurrence{
		// Match decides last, as a list of bindings.
		{},
		{Match: []impl.Binding{{}}},
		{Match: []impl.Binding{{}, {}}},
		{Match: []impl.Binding{{To: b}}},
		{Match: []impl.Binding{{Var: b}}},
		// Right decides before it, as the Args of a term: a proper prefix is first, and each element decides before those behind it.
		{Right: []impl.Term{{Op: -5}}},
		{Right: []impl.Term{{Op: -5}}, Match: match},
		{Right: []impl.Term{x}},
		{Right: []impl.Term{x, x}},
		{Right: []impl.Term{x, x, x}},
		{Right: []impl.Term{x, b}},
		{Right: []impl.Term{a}, Match: match},
		{Right: []impl.Term{a, x}},
		{Right: []impl.Term{apply(0, x)}},
		{Right: []impl.Term{apply(0, b)}},
		{Right: []impl.Term{b}},
		{Right: []impl.Term{b}, Match: match},
		// Left decides before Right.
		{Left: []impl.Term{x}},
		{Left: []impl.Term{x}, Match: match},
		{Left: []impl.Term{x}, Right: []impl.Term{b}},
		{Left: []impl.Term{x, x}},
		{Left: []impl.Term{x, a}, Right: []impl.Term{a}},
		{Left: []impl.Term{x, b}},
		{Left: []impl.Term{a}, Right: []impl.Term{b}, Match: match},
		{Left: []impl.Term{b}, Right: []impl.Term{a}},
		all,
		// Path decides before all of them, as a list of numbers.
		{Path: []int{math.MinInt}},
		{Path: []int{-1}},
		{Path: []int{-1}, Match: match},
		withPath(-1),
		{Path: []int{0}},
		{Path: []int{0}, Right: []impl.Term{a}},
		{Path: []int{0}, Left: []impl.Term{a}},
		withPath(0),
		{Path: []int{0, -1}},
		withPath(0, -1),
		withPath(0, 0),
		withPath(0, 0, 0),
		withPath(0, 0, 5),
		withPath(0, 1),
		withPath(0, 10),
		{Path: []int{1}},
		withPath(1),
		{Path: []int{1, 0}},
		withPath(2),
		withPath(9),
		{Path: []int{10}},
		withPath(math.MaxInt),
		{Path: []int{math.MaxInt, 0}},
	}
}

func TestCompareOccurrences(t *testing.T) {
	list := occurrencesInOrder()
	for i, a := range list {
		for j, b := range list {
			checkCompareOccurrences(t, a, b, cmp.Compare(i, j))
			if want := strings.Compare(occurrenceKey(a), occurrenceKey(b)); want != cmp.Compare(i, j) {
				t.Fatal(a, b, want)
			}
		}
	}
	checkCompareOccurrences(t, impl.Occurrence{}, impl.Occurrence{Path: []int{}, Left: []impl.Term{}, Right: []impl.Term{}, Match: []impl.Binding{}}, 0)
	checkCompareOccurrences(t, impl.Occurrence{Left: []impl.Term{{Args: []impl.Term{}}}}, impl.Occurrence{Left: []impl.Term{{}}}, 0)
}

// randomOccurrence gives an occurrence that need not fit any term.
func randomOccurrence(source *rand.Rand) impl.Occurrence {
	o := impl.Occurrence{}
	for range source.Intn(3) {
		o.Path = append(o.Path, source.Intn(3)-1)
	}
	for _, args := range []*[]impl.Term{&o.Left, &o.Right} {
		for range source.Intn(2) * source.Intn(3) {
			*args = append(*args, randomTree(source, 1+source.Intn(2)))
		}
	}
	for range source.Intn(2) {
		o.Match = append(o.Match, impl.Binding{Var: randomTree(source, 1), To: randomTree(source, 2)})
	}
	return o
}

func TestCompareRandomOccurrences(t *testing.T) {
	source := rand.New(rand.NewSource(68))
	for range 20000 {
		a, b := randomOccurrence(source), randomOccurrence(source)
		switch source.Intn(4) {
		case 0:
			b.Path = a.Path
		case 1:
			b.Path, b.Left = a.Path, a.Left
		case 2:
			b.Path, b.Left, b.Right = a.Path, a.Left, a.Right
		}
		checkCompareOccurrences(t, a, b, strings.Compare(occurrenceKey(a), occurrenceKey(b)))
		checkCompareOccurrences(t, a, a, 0)
	}
}

// Lists of any length and trees of any depth are compared, and what decides first is all that is compared.
func TestCompareGreatOccurrences(t *testing.T) {
	defer debug.SetMaxStack(debug.SetMaxStack(1 << 22))
	const depth = 300000
	deep, deeper := chainOf(3, depth, apply(0)), chainOf(3, depth, apply(1))
	for _, around := range []func(x impl.Term) impl.Occurrence{
		func(x impl.Term) impl.Occurrence { return impl.Occurrence{Left: []impl.Term{deep, x}} },
		func(x impl.Term) impl.Occurrence { return impl.Occurrence{Right: []impl.Term{x, deep}} },
		func(x impl.Term) impl.Occurrence {
			return impl.Occurrence{Left: []impl.Term{deep}, Right: []impl.Term{deep}, Match: []impl.Binding{{Var: deep, To: x}}}
		},
		func(x impl.Term) impl.Occurrence {
			return impl.Occurrence{Path: slices.Repeat([]int{7}, depth), Left: slices.Repeat([]impl.Term{apply(0)}, depth), Right: []impl.Term{x}}
		},
		func(x impl.Term) impl.Occurrence {
			return impl.Occurrence{Path: append(slices.Repeat([]int{7}, depth), x.Args[0].Op, depthByLoop(x)), Left: []impl.Term{x}}
		},
	} {
		for i, pair := range [][2]impl.Term{{deep, deep}, {deep, deeper}} {
			a, b := around(pair[0]), around(pair[1])
			if got, back := impl.CompareOccurrences(a, b), impl.CompareOccurrences(b, a); got != -i || back != i {
				t.Fatal(got, back, "want", -i)
			}
		}
	}
	for _, endless := range endlessTrees() {
		args := []impl.Term{endless}
		match := []impl.Binding{{Var: endless, To: endless}}
		for _, pair := range [][2]impl.Occurrence{
			{{Path: []int{1}, Left: args, Right: args, Match: match}, {Path: []int{2}, Left: args, Right: args, Match: match}},
			{{Right: args, Match: match}, {Left: []impl.Term{apply(0)}, Right: args, Match: match}},
			{{Match: match}, {Right: []impl.Term{apply(0)}, Match: match}},
		} {
			if got, back := impl.CompareOccurrences(pair[0], pair[1]), impl.CompareOccurrences(pair[1], pair[0]); got != -1 || back != 1 {
				t.Fatal(got, back)
			}
		}
	}
}

// depthByLoop gives the depth of a chain.
func depthByLoop(x impl.Term) int {
	depth := 1
	for len(x.Args) > 0 {
		x = x.Args[0]
		depth++
	}
	return depth
}

func TestSubtermAt(t *testing.T) {
	x, a := variableOf("x", 2), apply(0)
	odd := impl.Term{Op: -1, Name: "", Sort: -7, Args: []impl.Term{apply(-7, a), {Op: 99, Name: "n", Sort: 5, Args: []impl.Term{x, a, {}}}}}
	for _, c := range []struct {
		tree impl.Term
		path []int
		want impl.Term
		ok   bool
	}{
		{a, nil, a, true},
		{a, []int{}, a, true},
		{x, nil, x, true},
		{a, []int{0}, a, false},
		{x, []int{0}, a, false},
		{a, []int{-1}, a, false},
		{impl.Term{}, nil, impl.Term{}, true},
		{impl.Term{}, []int{0}, impl.Term{}, false},
		{apply(4, x, a), nil, apply(4, x, a), true},
		{apply(4, x, a), []int{0}, x, true},
		{apply(4, x, a), []int{1}, a, true},
		{apply(4, x, a), []int{2}, a, false},
		{apply(4, x, a), []int{-1}, a, false},
		{apply(4, x, a), []int{math.MaxInt}, a, false},
		{apply(4, x, a), []int{math.MinInt}, a, false},
		{apply(4, x, a), []int{1, 0}, a, false},
		{apply(4, x, a), []int{2, 0}, a, false},
		{apply(4, x, a), []int{-1, 0}, a, false},
		// All trees are accepted.
		{odd, nil, odd, true},
		{odd, []int{0}, apply(-7, a), true},
		{odd, []int{0, 0}, a, true},
		{odd, []int{0, 1}, a, false},
		{odd, []int{1}, odd.Args[1], true},
		{odd, []int{1, 0}, x, true},
		{odd, []int{1, 1}, a, true},
		{odd, []int{1, 2}, impl.Term{}, true},
		{odd, []int{1, 3}, a, false},
		{odd, []int{1, 2, 0}, a, false},
		{odd, []int{2}, a, false},
		{impl.Term{Args: []impl.Term{}}, []int{}, impl.Term{}, true},
	} {
		if !c.ok {
			c.want = impl.Term{}
		}
		checkSubterm(t, c.tree, c.path, c.want, c.ok)
	}
}

// The parts at all paths are those that the text says, and next to them there are none.
func TestAllSubterms(t *testing.T) {
	source := rand.New(rand.NewSource(69))
	for range 1500 {
		x := randomTree(source, 1+source.Intn(6))
		for _, path := range pathsOf(x) {
			part, _ := partAt(x, path)
			checkSubterm(t, x, path, part, true)
			for _, i := range []int{-1, len(part.Args), len(part.Args) + source.Intn(100)} {
				checkSubterm(t, x, append(slices.Clip(path), i), impl.Term{}, false)
				checkSubterm(t, x, append(slices.Clip(path), i, 0), impl.Term{}, false)
			}
		}
	}
}

func TestSubtermsOfGreatTrees(t *testing.T) {
	defer debug.SetMaxStack(debug.SetMaxStack(1 << 22))
	const depth = 300000
	deep, zeros := chainOf(3, depth, variableOf("x", 1)), make([]int, depth+5)
	for _, length := range []int{0, 1, 100, depth - 1, depth, depth + 1, depth + 5} {
		got, ok := impl.SubtermAt(deep, zeros[:length])
		if ok != (length <= depth) || ok && depthByLoop(got) != depth+1-length || !ok && !reflect.DeepEqual(got, impl.Term{}) {
			t.Error(length, ok)
		}
	}
	wide := apply(6, slices.Repeat([]impl.Term{deep}, 3)...)
	wide.Args = append(slices.Repeat([]impl.Term{apply(0)}, depth), wide.Args...)
	got, ok := impl.SubtermAt(wide, append([]int{depth + 2}, zeros[:depth]...))
	if !ok || orderKey(got) != orderKey(variableOf("x", 1)) {
		t.Error(got, ok)
	}
	checkSubterm(t, apply(0), zeros, impl.Term{}, false)
	// A path leads through a value that contains itself, and out of it.
	args := []impl.Term{apply(0), {}}
	args[1] = impl.Term{Op: 4, Args: args}
	path := slices.Repeat([]int{1}, 100)
	checkSubterm(t, impl.Term{Op: 4, Args: args}, append(path, 0), apply(0), true)
	if got, ok := impl.SubtermAt(args[1], append(path, 2)); ok || got.Args != nil {
		t.Error("a part that is not there")
	}
}

// occurrenceCase is a pattern and a term with the texts of the occurrences.
type occurrenceCase struct {
	p, tree string
	want    []string
}

// occurrenceCases gives patterns and terms of formSignature.
func occurrenceCases() []occurrenceCase {
	return []occurrenceCase{
		// In each part, in the order of the paths.
		{"a", "a", []string{"[] [] none"}},
		{"a", "b", nil},
		{"a", "x:A", nil},
		{"x:A", "a", []string{"[] [] x:A = a"}},
		{"x:A", "x:A", []string{"[] [] x:A = x:A"}},
		{"x:B", "a", nil},
		{"b", "c(b, g(b))", []string{"0 [] [] none", "1.0 [] [] none"}},
		{"x:C", "c(g(a), b)", []string{"[] [] x:C = c(g(a), b)", "0 [] [] x:C = g(a)", "0.0 [] [] x:C = a", "1 [] [] x:C = b"}},
		{"x:A", "c(b, g(a))", []string{"1 [] [] x:A = g(a)", "1.0 [] [] x:A = a"}},
		{"g(x:C)", "g(g(g(a)))", []string{"[] [] x:C = g(g(a))", "0 [] [] x:C = g(a)", "0.0 [] [] x:C = a"}},
		{"g(g(x:C))", "g(g(g(a)))", []string{"[] [] x:C = g(a)", "0 [] [] x:C = a"}},
		{"h(x:C, y:C)", "h(a, h(a, b))", []string{"[] [] x:C = a, y:C = h(a, b)", "[] [] x:C = h(a, b), y:C = a", "1 [] [] x:C = a, y:C = b", "1 [] [] x:C = b, y:C = a"}},
		{"d", "k(d, a, d)", []string{"0 [] [] none", "2 [] [] none"}},
		{"x:E", "k(q(a, b), a, d)", []string{"[] [] x:E = k(q(a, b), a, d)", "0 [] [] x:E = q(a, b)", "2 [] [] x:E = d"}},
		{"d", "g(a)", nil},
		// The Args of an associative operator: adjacent ones, with those before and behind them.
		{"l(a, b)", "l(a, b)", []string{"[] [] none"}},
		{"l(a, b)", "l(b, a)", nil},
		{"l(a, b)", "l(a, b, a)", []string{"[] [a] none"}},
		{"l(b, a)", "l(a, b, a)", []string{"[a] [] none"}},
		{"l(a, a)", "l(a, b, a)", nil},
		{"l(a, b)", "l(a, b, a, b)", []string{"[] [a, b] none", "[a, b] [] none"}},
		{"l(a, a)", "l(a, a, a, a)", []string{"[] [a, a] none", "[a] [a] none", "[a, a] [] none"}},
		{"l(a, a, a)", "l(a, a, a, a)", []string{"[] [a] none", "[a] [] none"}},
		{"l(a, b, a)", "l(b, a, b, a, b)", []string{"[b] [b] none"}},
		{"l(a, b, a)", "l(b, a)", nil},
		{"l(x:C, y:C)", "l(a, b, a)", []string{"[] [] x:C = a, y:C = l(b, a)", "[] [] x:C = l(a, b), y:C = a", "[] [a] x:C = a, y:C = b", "[a] [] x:C = b, y:C = a"}},
		{"l(x:C, x:C)", "l(a, b, a, b)", []string{"[] [] x:C = l(a, b)"}},
		{"l(x:C, x:C)", "l(b, b, a, a)", []string{"[] [a, a] x:C = b", "[b, b] [] x:C = a"}},
		{"l(x:A, y:B)", "l(a, a, b, a)", []string{"[] [a] x:A = l(a, a), y:B = b", "[a] [a] x:A = a, y:B = b"}},
		{"l(g(x:C), y:C)", "l(a, g(a), g(g(a)), b)", []string{"[a] [] x:C = a, y:C = l(g(g(a)), b)", "[a] [b] x:C = a, y:C = g(g(a))", "[a, g(a)] [] x:C = g(a), y:C = b"}},
		// Those of a commutative one: any, with all others in order, and equal ones only once.
		{"m(a, b)", "m(a, b)", []string{"[] [] none"}},
		{"m(a, b)", "m(a, a)", nil},
		{"m(a, b)", "m(a, a, b)", []string{"[a] [] none"}},
		{"m(a, b)", "m(a, a, b, b)", []string{"[a, b] [] none"}},
		{"m(a, a)", "m(a, a, a, a)", []string{"[a, a] [] none"}},
		{"m(a, g(a))", "m(x:C, a, b, g(a), g(b))", []string{"[x:C, b, g(b)] [] none"}},
		{"m(a, a, b)", "m(a, b, b)", nil},
		{"m(x:C, y:C)", "m(a, a, b)", []string{"[] [] x:C = a, y:C = m(a, b)", "[] [] x:C = b, y:C = m(a, a)", "[] [] x:C = m(a, a), y:C = b", "[] [] x:C = m(a, b), y:C = a", "[a] [] x:C = a, y:C = b", "[a] [] x:C = b, y:C = a", "[b] [] x:C = a, y:C = a"}},
		{"m(x:C, x:C)", "m(a, a, b, b)", []string{"[] [] x:C = m(a, b)", "[a, a] [] x:C = b", "[b, b] [] x:C = a"}},
		{"m(x:A, b)", "m(a, b, g(a))", []string{"[a] [] x:A = g(a)", "[g(a)] [] x:A = a"}},
		{"m(x:B, g(y:A))", "m(b, g(a), g(g(a)))", []string{"[] [] x:B = m(b, g(a)), y:A = g(a)", "[] [] x:B = m(b, g(g(a))), y:A = a", "[g(a)] [] x:B = b, y:A = g(a)", "[g(g(a))] [] x:B = b, y:A = a"}},
		// Only a pattern with the same operator takes some of the Args.
		{"x:C", "l(a, b, a)", []string{"[] [] x:C = l(a, b, a)", "0 [] [] x:C = a", "1 [] [] x:C = b", "2 [] [] x:C = a"}},
		{"x:C", "m(a, a)", []string{"[] [] x:C = m(a, a)", "0 [] [] x:C = a", "1 [] [] x:C = a"}},
		{"l(a, b)", "m(a, b, b)", nil},
		{"m(a, b)", "l(a, b, b)", nil},
		{"l(m(a, b), b)", "l(a, m(a, b), b)", []string{"[a] [] none"}},
		{"l(m(a, b), b)", "l(a, m(a, a, b), b)", nil},
		{"m(a, b)", "l(a, m(a, a, b), b)", []string{"1 [a] [] none"}},
		{"g(m(a, b))", "g(m(a, a, b))", nil},
		{"l(a, b)", "l(a, b, m(b, l(b, a, b)))", []string{"[] [m(b, l(b, a, b))] none", "2.1 [b] [] none"}},
		{"h(a, b)", "h(b, h(a, b))", []string{"1 [] [] none"}},
		// All Args but one are not left out, but each argument is a part itself.
		{"w(x:C, y:C)", "w(a, g(a))", []string{"[] [] x:C = a, y:C = g(a)", "[] [] x:C = b, y:C = w(a, g(a))", "[] [] x:C = w(a, g(a)), y:C = b", "0 [] [] x:C = a, y:C = b", "0 [] [] x:C = b, y:C = a", "1 [] [] x:C = b, y:C = g(a)", "1 [] [] x:C = g(a), y:C = b", "1.0 [] [] x:C = a, y:C = b", "1.0 [] [] x:C = b, y:C = a"}},
		{"z(x:C, g(a))", "z(b, b, g(a))", []string{"[] [] x:C = z(b, b)", "[b] [] x:C = b", "2 [] [] x:C = a"}},
		{"z(x:B, g(a))", "z(b, b, g(a))", []string{"[b] [] x:B = b"}},
		{"w(x:C, a)", "w(a, a, a)", []string{"[] [] x:C = w(a, a)", "[] [a] x:C = a", "[a] [] x:C = a", "0 [] [] x:C = b", "1 [] [] x:C = b", "2 [] [] x:C = b"}},
		// A pattern that a Unit makes an application of another operator has its own operator all the same.
		{"z(x:A, l(y:C, a))", "l(b, b, a)", []string{"[] [] x:A = a, y:C = l(b, b)"}},
		{"z(x:A, l(y:C, a))", "l(b, a, b)", nil},
		{"u(x:A, l(y:C, a))", "l(b, a, a)", []string{"[] [] x:A = a, y:C = l(b, a)"}},
		{"l(z(x:A, y:C), a)", "l(b, b, a, b)", []string{"[] [b] x:A = a, y:C = l(b, b)", "[b] [b] x:A = a, y:C = b"}},
		{"z(x:C, l(y:C, a))", "z(b, g(a), l(b, b, a))", []string{"[] [] x:C = z(b, g(a)), y:C = l(b, b)", "[b] [] x:C = g(a), y:C = l(b, b)", "[g(a)] [] x:C = b, y:C = l(b, b)", "2 [] [] x:C = a, y:C = l(b, b)"}},
		{"v(x:A, y:B)", "v(b, b)", []string{"0 [] [] x:A = a, y:B = b", "1 [] [] x:A = a, y:B = b"}},
	}
}

// checkTextsOfOccurrences checks what OccurrencesOf gives for a case, also against the text with all matches that trying finds.
func checkTextsOfOccurrences(t *testing.T, f occurrencesByText, c occurrenceCase) {
	t.Helper()
	p, x := treeOf(f.s, c.p), treeOf(f.s, c.tree)
	got, ok := impl.OccurrencesOf(f.s, p, x)
	texts := []string{}
	for _, o := range got {
		texts = append(texts, occurrenceText(f.s, o))
	}
	if !ok || !slices.Equal(texts, c.want) {
		t.Errorf("the occurrences of %s in %s are %q, %v, want %q", c.p, c.tree, texts, ok, c.want)
	}
	want, wantOk := f.occurrences(p, x, f.modulo)
	checkOccurrences(t, f, p, x, want, wantOk)
}

func TestOccurrencesOf(t *testing.T) {
	f := occurrenceTextFor(formSignature())
	for _, c := range occurrenceCases() {
		checkTextsOfOccurrences(t, f, c)
	}
}

// Parts of associative arguments: each group of them is taken, with what is left out, wherever it is.
func TestEveryGroupIsTaken(t *testing.T) {
	s := limitSignature()
	f := occurrenceTextFor(s)
	for op := 5; op <= 8; op++ {
		for count := 2; count <= 7; count++ {
			args := []impl.Term{}
			for i := range count {
				args = append(args, []impl.Term{variableOf("q", 0), apply(3, apply(0)), apply(3, variableOf("q", 0))}[i*i%3])
			}
			x, _ := impl.CanonicalTerm(s, apply(op, args...))
			for _, around := range []int{0, 2} {
				whole, path := chainOf(3, around, x), slices.Repeat([]int{0}, around)
				for _, cut := range append(f.cutsOf(op, x.Args), impl.Occurrence{}) {
					cut.Path = path
					p, ok := f.taken(whole, cut)
					if !ok {
						t.Fatal(whole, cut)
					}
					for _, v := range impl.VariablesOf(p) {
						cut.Match = append(cut.Match, impl.Binding{Var: v, To: v})
					}
					got, ok := impl.OccurrencesOf(s, p, whole)
					if !ok || !slices.Contains(occurrenceKeys(got), occurrenceKey(cut)) {
						t.Fatalf("OccurrencesOf(%v, %v) = %v, %v, without %v", p, whole, got, ok, cut)
					}
					if count < 5 {
						checkSameOccurrences(t, f, p, whole)
					}
				}
			}
		}
	}
}

// placeCase is an occurrence in a term, and what it takes; this is empty if it does not fit.
type placeCase struct {
	tree        string
	path        []int
	left, right string
	taken       string
}

// placeCases gives places in terms of formSignature.
func placeCases() []placeCase {
	return []placeCase{
		// The whole part.
		{"a", nil, "", "", "a"},
		{"x:A", nil, "", "", "x:A"},
		{"g(x:A)", []int{0}, "", "", "x:A"},
		{"c(a, g(b))", nil, "", "", "c(a, g(b))"},
		{"c(a, g(b))", []int{1}, "", "", "g(b)"},
		{"c(a, g(b))", []int{1, 0}, "", "", "b"},
		{"m(a, a, b)", nil, "", "", "m(a, a, b)"},
		{"m(a, a, b)", []int{2}, "", "", "b"},
		// A path that does not exist.
		{"a", []int{0}, "", "", ""},
		{"x:A", []int{0}, "", "", ""},
		{"c(a, g(b))", []int{2}, "", "", ""},
		{"c(a, g(b))", []int{-1}, "", "", ""},
		{"c(a, g(b))", []int{1, 1}, "", "", ""},
		{"c(a, g(b))", []int{0, 0}, "", "", ""},
		{"c(a, l(a, b, a))", []int{2}, "a", "", ""},
		{"c(a, l(a, b, a))", []int{1, 3}, "", "", ""},
		// Some of the Args of an operator that is not commutative: they begin with Left and end with Right.
		{"l(a, b, a)", nil, "a", "", "l(b, a)"},
		{"l(a, b, a)", nil, "", "a", "l(a, b)"},
		{"l(a, b, a)", nil, "b", "", ""},
		{"l(a, b, a)", nil, "", "b", ""},
		{"l(a, b, a)", nil, "a", "a", ""},
		{"l(a, b, a)", nil, "a; b", "", ""},
		{"l(a, b, a)", nil, "", "b; a", ""},
		{"l(a, b, a)", nil, "a; b; a", "", ""},
		{"l(a, b, a)", nil, "a; b; a; a", "", ""},
		{"l(a, b)", nil, "a", "", ""},
		{"l(a, b)", nil, "", "b", ""},
		{"l(a, b, b, a)", nil, "a; b", "", "l(b, a)"},
		{"l(a, b, b, a)", nil, "b; a", "", ""},
		{"l(a, b, b, a)", nil, "a", "a", "l(b, b)"},
		{"l(a, b, b, a)", nil, "", "b; a", "l(a, b)"},
		{"l(a, b, b, a)", nil, "", "a; b", ""},
		{"l(a, b, b, a)", nil, "a", "", "l(b, b, a)"},
		{"l(a, b, b, a)", nil, "a; b", "a", ""},
		{"l(a, b, b, a, x:C)", nil, "a; b", "x:C", "l(b, a)"},
		{"l(a, b, b, a, x:C)", nil, "a; b", "x:A", ""},
		{"l(a, b, b, a, x:C)", nil, "a; b", "y:C", ""},
		{"l(a, b, b, a, x:C)", nil, "a; g(b)", "", ""},
		{"c(a, l(a, b, a))", []int{1}, "a", "", "l(b, a)"},
		{"c(a, l(a, b, a))", []int{0}, "a", "", ""},
		{"c(a, l(a, b, a))", nil, "a", "", ""},
		{"w(a, g(b), a)", nil, "a", "", "w(g(b), a)"},
		{"w(a, g(b), a)", nil, "", "a", "w(a, g(b))"},
		{"w(a, g(b), a)", nil, "b", "", ""},
		// Those of a commutative one: Left is in order and contained, as often as it has each.
		{"m(a, a, b)", nil, "a", "", "m(a, b)"},
		{"m(a, a, b)", nil, "b", "", "m(a, a)"},
		{"m(a, a, b)", nil, "", "b", ""},
		{"m(a, a, b)", nil, "", "a", ""},
		{"m(a, a, b)", nil, "g(a)", "", ""},
		{"m(a, a, b)", nil, "a; a", "", ""},
		{"m(a, a, b)", nil, "a; b", "", ""},
		{"m(a, a, b)", nil, "a; a; b", "", ""},
		{"m(a, b)", nil, "a", "", ""},
		{"m(a, a, b, b)", nil, "a; a", "", "m(b, b)"},
		{"m(a, a, b, b)", nil, "a; b", "", "m(a, b)"},
		{"m(a, a, b, b)", nil, "b; a", "", ""},
		{"m(a, a, b, b)", nil, "b; b", "", "m(a, a)"},
		{"m(a, a, b, b)", nil, "a", "b", ""},
		{"m(a, b, g(a), g(b))", nil, "a; a", "", ""},
		{"m(a, b, g(a), g(b))", nil, "a; g(b)", "", "m(b, g(a))"},
		{"m(a, b, g(a), g(b))", nil, "b; g(a)", "", "m(a, g(b))"},
		{"m(a, b, g(a), g(b))", nil, "g(b); a", "", ""},
		{"m(a, b, b, b, g(a))", nil, "b; b", "", "m(a, b, g(a))"},
		{"m(a, b, b, b, g(a))", nil, "b; b; b", "", "m(a, g(a))"},
		{"m(a, b, b, b, g(a))", nil, "b; b; b; b", "", ""},
		{"m(a, b, b, b, g(a))", nil, "a; b; g(a)", "", "m(b, b)"},
		{"g(z(b, b, b))", []int{0}, "b", "", "z(b, b)"},
		{"g(z(b, b, b))", []int{0}, "a", "", ""},
		{"g(z(b, b, b))", []int{0}, "b; b", "", ""},
		{"g(z(b, b, b))", []int{0, 0}, "b", "", ""},
		// An operator that is not associative.
		{"h(a, b)", nil, "a", "", ""},
		{"h(a, b)", nil, "", "b", ""},
		{"c(a, b)", nil, "a", "", ""},
		{"k(d, a, d)", nil, "d", "", ""},
		{"u(b, b)", nil, "b", "", ""},
		{"g(a)", nil, "a", "", ""},
		{"a", nil, "a", "", ""},
		{"x:A", nil, "x:A", "", ""},
		{"x:A", nil, "", "a", ""},
	}
}

func (c placeCase) occurrence(s impl.Signature, match []impl.Binding) impl.Occurrence {
	return impl.Occurrence{Path: c.path, Left: treesOf(s, c.left), Right: treesOf(s, c.right), Match: match}
}

// oddMatches gives lists that are no matches.
func oddMatches(s impl.Signature) [][]impl.Binding {
	return [][]impl.Binding{nil, {}, bindingsOf(s, "x:A = a"), {{}}, {{Var: apply(-7), To: apply(99, apply(4))}, {Var: apply(0)}}, {{Var: endlessTrees()[5], To: endlessTrees()[0]}}, make([]impl.Binding, 100000)}
}

// Match is not looked at.
func TestTakenAt(t *testing.T) {
	s := formSignature()
	f, matches := occurrenceTextFor(s), oddMatches(s)
	for _, c := range placeCases() {
		x, want := treeOf(s, c.tree), impl.Term{}
		if c.taken != "" {
			want = treeOf(s, c.taken)
		}
		for _, match := range matches {
			checkTaken(t, s, x, c.occurrence(s, match), want, c.taken != "")
			if c.taken == "" {
				checkReplace(t, s, x, c.occurrence(s, match), x, impl.Term{}, false)
			}
		}
		if there := checkPlace(t, f, x, c.occurrence(s, nil), treeOf(s, "g(b)")); there != (c.taken != "") {
			t.Error("not as the text says:", c)
		}
	}
}

// replaceCase is an occurrence in a term by its path and what is left out, a term that replaces what is taken, and the result; this is empty if there is none.
type replaceCase struct {
	tree        string
	path        []int
	left, right string
	u, want     string
}

func TestReplaceOccurrence(t *testing.T) {
	s := formSignature()
	f := occurrenceTextFor(s)
	for _, c := range []replaceCase{
		// The whole part.
		{"a", nil, "", "", "b", "b"},
		{"a", nil, "", "", "x:C", "x:C"},
		{"x:C", nil, "", "", "m(a, b)", "m(a, b)"},
		{"c(a, g(b))", []int{1, 0}, "", "", "x:C", "c(a, g(x:C))"},
		{"c(a, g(b))", []int{1}, "", "", "g(g(a))", "c(a, g(g(a)))"},
		{"c(a, g(b))", []int{0}, "", "", "c(b, b)", "c(c(b, b), g(b))"},
		{"k(d, a, d)", []int{2}, "", "", "q(a, b)", "k(d, a, q(a, b))"},
		// The root can be replaced by a term of another kind, a part cannot.
		{"a", nil, "", "", "d", "d"},
		{"m(a, b)", nil, "", "", "k(d, a, d)", "k(d, a, d)"},
		{"g(a)", []int{0}, "", "", "d", ""},
		{"g(g(a))", []int{0, 0}, "", "", "x:D", ""},
		{"k(d, a, d)", []int{1}, "", "", "d", ""},
		{"k(d, a, d)", []int{0}, "", "", "a", ""},
		{"l(a, b, a)", nil, "a", "", "d", ""},
		{"m(a, b, b)", nil, "a", "", "x:E", ""},
		// The nodes above are put in order.
		{"h(a, b)", []int{0}, "", "", "g(b)", "h(b, g(b))"},
		{"h(a, b)", []int{1}, "", "", "x:C", "h(x:C, a)"},
		{"q(g(a), h(a, b))", []int{1, 0}, "", "", "g(b)", "q(g(a), h(b, g(b)))"},
		{"q(h(a, b), h(b, b))", []int{0, 0}, "", "", "g(b)", "q(h(b, b), h(b, g(b)))"},
		{"m(a, a, b)", []int{1}, "", "", "g(a)", "m(a, b, g(a))"},
		{"m(a, a, b)", []int{2}, "", "", "x:A", "m(x:A, a, a)"},
		// They lose Units, and what is left takes their place.
		{"u(b, g(b))", []int{0}, "", "", "a", "g(b)"},
		{"u(b, g(b))", []int{1}, "", "", "a", "b"},
		{"v(b, b)", []int{1}, "", "", "a", "b"},
		{"g(u(b, g(b)))", []int{0, 1}, "", "", "a", "g(b)"},
		{"z(b, b, b)", []int{2}, "", "", "a", "z(b, b)"},
		{"w(a, a)", []int{0}, "", "", "b", "a"},
		{"w(a, g(a), a)", []int{1}, "", "", "b", "w(a, a)"},
		{"z(b, g(u(b, b)))", []int{1, 0, 1}, "", "", "a", "z(b, g(b))"},
		{"z(b, w(a, a))", []int{1, 1}, "", "", "b", "b"},
		{"z(b, w(a, a))", []int{1, 0}, "", "", "g(b)", "z(b, w(g(b), a))"},
		{"u(w(a, a), b)", []int{0, 1}, "", "", "b", "b"},
		// An application of the same operator is put together with them.
		{"l(a, g(a), b)", []int{1}, "", "", "l(b, b)", "l(a, b, b, b)"},
		{"m(a, b, g(a))", []int{2}, "", "", "m(a, b)", "m(a, a, b, b)"},
		{"l(a, z(b, g(a)), b)", []int{1, 1}, "", "", "a", "l(a, b, b)"},
		{"l(a, u(b, l(a, b)), b)", []int{1, 0}, "", "", "a", "l(a, a, b, b)"},
		{"w(a, z(g(a), w(a, g(a))), a)", []int{1, 0}, "", "", "a", "w(a, a, g(a), a)"},
		// Some of the Args.
		{"l(a, b, a)", nil, "a", "", "x:C", "l(a, x:C)"},
		{"l(a, b, a)", nil, "", "a", "x:C", "l(x:C, a)"},
		{"l(a, b, b, a)", nil, "a", "a", "g(a)", "l(a, g(a), a)"},
		{"l(a, b, b, a)", nil, "a; b", "", "l(a, a)", "l(a, b, a, a)"},
		{"l(a, b, b, a)", nil, "", "b; a", "l(a, x:C, a)", "l(a, x:C, a, b, a)"},
		{"l(a, b, b, a)", nil, "a", "", "l(a, b, b, a)", "l(a, a, b, b, a)"},
		{"m(a, a, b)", nil, "a", "", "b", "m(a, b)"},
		{"m(a, a, b)", nil, "b", "", "a", "m(a, b)"},
		{"m(a, a, b)", nil, "b", "", "g(b)", "m(b, g(b))"},
		{"m(a, a, b, b)", nil, "b; b", "", "a", "m(a, b, b)"},
		{"m(a, a, b, b)", nil, "a; b", "", "m(x:A, g(a))", "m(x:A, a, b, g(a))"},
		{"m(a, b, g(a), g(b))", nil, "a; g(b)", "", "h(a, b)", "m(a, g(b), h(a, b))"},
		{"c(a, l(a, b, a))", []int{1}, "a", "", "l(a, b)", "c(a, l(a, a, b))"},
		{"h(g(a), m(a, b, b))", nil, "", "", "a", "a"},
		{"h(g(a), m(a, b, b))", []int{1}, "a", "", "x:A", "h(g(a), m(x:A, a))"},
		{"h(l(a, b, b), m(a, b))", []int{0}, "", "b", "m(a, b)", "h(l(m(a, b), b), m(a, b))"},
		// A Unit takes the place of some Args.
		{"w(a, g(a), a)", nil, "a", "", "b", "a"},
		{"w(a, g(a), g(b))", nil, "", "g(b)", "b", "g(b)"},
		{"w(a, g(a), g(b), a)", nil, "a", "a", "b", "w(a, a)"},
		{"z(b, b, b)", nil, "b", "", "a", "b"},
		{"z(b, b, g(b), g(b))", nil, "b; g(b)", "", "a", "z(b, g(b))"},
		{"g(z(b, b, g(b)))", []int{0}, "g(b)", "", "a", "g(g(b))"},
		{"l(a, z(g(a), g(b), l(a, b)), b)", []int{1}, "l(a, b)", "", "a", "l(a, a, b, b)"},
		// What replaces it must be a term.
		{"a", nil, "", "", "h(b, a)", ""},
		{"g(a)", []int{0}, "", "", "l(a, l(b, a))", ""},
		{"l(a, b, a)", nil, "a", "", "l(a, l(b, a))", ""},
		{"l(a, b, a)", nil, "a", "", "z(a, b)", ""},
		{"l(a, b, a)", nil, "a", "", "g(d)", ""},
		{"l(a, b, a)", nil, "a", "", "l(a)", ""},
		// The term must be one.
		{"h(b, a)", []int{0}, "", "", "a", ""},
		{"h(b, a)", nil, "", "", "a", ""},
		{"l(l(a, b), a)", nil, "", "a", "a", ""},
		{"m(b, a, a)", nil, "a", "", "a", ""},
		// The occurrence must fit.
		{"g(a)", []int{1}, "", "", "a", ""},
		{"l(a, b, a)", nil, "b", "", "a", ""},
		{"l(a, b, a)", nil, "a", "a", "a", ""},
		{"m(a, a, b)", nil, "", "a", "a", ""},
		{"m(a, a, b, b)", nil, "b; a", "", "a", ""},
		{"z(b, b, b)", nil, "a", "", "b", ""},
		{"h(a, b)", nil, "a", "", "b", ""},
	} {
		x, u, want := treeOf(s, c.tree), treeOf(s, c.u), impl.Term{}
		if c.want != "" {
			want = treeOf(s, c.want)
		}
		o := impl.Occurrence{Path: c.path, Left: treesOf(s, c.left), Right: treesOf(s, c.right)}
		checkReplace(t, s, x, o, u, want, c.want != "")
		o.Match = []impl.Binding{{Var: apply(-7), To: apply(99)}, {}}
		checkReplace(t, s, x, o, u, want, c.want != "")
		checkPlace(t, f, x, o, u)
	}
}

// withTaken gives an occurrence that leaves out the first Args of an application of an operator that is not commutative, or the last ones of a commutative one.
func withTaken(s impl.Signature, x impl.Term, left int) impl.Occurrence {
	if s.Ops[x.Op].Comm {
		return impl.Occurrence{Left: x.Args[len(x.Args)-left:]}
	}
	return impl.Occurrence{Left: x.Args[:left]}
}

// The result, and each part on the way to it, is a term only within the limits.
func TestReplacedTermsAtTheLimits(t *testing.T) {
	s := limitSignature()
	f := occurrenceTextFor(s)
	a, q := apply(0), variableOf("q", 0)
	// The number of nodes: p, two trees and the one in it.
	for size := 1; size <= 60; size++ {
		x, u := apply(4, treeOfSize(20), treeOfSize(19)), treeOfSize(size)
		for _, place := range []int{0, 1} {
			_, ok := impl.ReplaceOccurrence(s, x, impl.Occurrence{Path: []int{place}}, u)
			if rest := 40 - len(partsByText(x.Args[place])); ok != (size+rest <= 60) {
				t.Error(size, place, ok)
			}
			checkPlace(t, f, x, impl.Occurrence{Path: []int{place}}, u)
		}
		for op := 5; op <= 8; op++ {
			sum, _ := impl.CanonicalTerm(s, apply(op, treeOfSize(10), treeOfSize(11), treeOfSize(12), q))
			for left := 1; left <= 2; left++ {
				checkPlace(t, f, sum, withTaken(s, sum, left), u)
				checkPlace(t, f, apply(3, sum), impl.Occurrence{Path: []int{0, 3}}, u)
			}
		}
	}
	// The depth.
	for depth := range 20 {
		for around := range 20 {
			x, u := chainOf(3, around, q), chainOf(3, depth, a)
			path := make([]int, around)
			checkReplace(t, s, x, impl.Occurrence{Path: path}, u, chainOf(3, around+depth, a), around+depth <= 19)
			checkPlace(t, f, x, impl.Occurrence{Path: path}, u)
			if around > 0 {
				sum := chainOf(3, around-1, apply(5, a, q, a))
				o := impl.Occurrence{Path: path[1:], Left: []impl.Term{a}}
				_, ok := impl.ReplaceOccurrence(s, sum, o, u)
				if ok != (around+depth <= 19) {
					t.Error(around, depth, ok)
				}
				checkPlace(t, f, sum, o, u)
			}
		}
	}
	checkWidthReplaced(t, f)
}

// checkWidthReplaced checks the limit of the width, where an application takes the place of one argument or some of them, also where it comes there as a Unit is left out.
func checkWidthReplaced(t *testing.T, f occurrencesByText) {
	a := apply(0)
	for op := 5; op <= 8; op++ {
		for count := 3; count <= 7; count++ {
			leaves := leavesOf(count)
			for i := range leaves {
				leaves[i].Sort = 0
			}
			x, _ := impl.CanonicalTerm(f.s, apply(op, leaves...))
			for added := 2; added <= 7; added++ {
				u, _ := impl.CanonicalTerm(f.s, apply(op, slices.Repeat([]impl.Term{variableOf("v", 0)}, added)...))
				for left := 1; left <= count-2; left++ {
					o := withTaken(f.s, x, left)
					if _, ok := impl.ReplaceOccurrence(f.s, x, o, u); ok != (left+added <= 7) {
						t.Error(op, count, added, left, ok)
					}
					checkPlace(t, f, x, o, u)
				}
				for place := range count {
					o := impl.Occurrence{Path: []int{place}}
					if _, ok := impl.ReplaceOccurrence(f.s, x, o, u); ok != (count-1+added <= 7) {
						t.Error(op, count, added, place, ok)
					}
					checkPlace(t, f, x, o, u)
					// The Unit of the operator between them is a.
					between := withArg(x, place, apply(15-op, u, apply(3, a)))
					if form, ok := impl.CanonicalTerm(f.s, between); op >= 7 && ok {
						for _, path := range pathsOf(form) {
							checkPlace(t, f, form, impl.Occurrence{Path: path}, a)
						}
					}
				}
			}
		}
	}
}

// A pattern has at most MaxPatternVars different variables, however often they occur, and wherever it occurs.
func TestNumberOfVariablesInOccurrences(t *testing.T) {
	s := limitSignature()
	f := occurrenceTextFor(s)
	a, v := apply(0), variableOf("v", 0)
	for count := 0; count <= 9; count++ {
		variables := numberedVariables(count)
		once, twice := a, a
		for _, x := range variables {
			once, twice = apply(4, once, x), apply(4, apply(4, x, twice), x)
		}
		for _, p := range []impl.Term{once, twice, apply(4, twice, once), chainOf(3, 8, once)} {
			own := impl.Occurrence{Match: boundToThemselves(variables)}
			if count > 5 {
				checkNoOccurrences(t, s, p, p)
				checkNoOccurrences(t, s, p, v)
				checkNoOccurrences(t, s, p, a)
			} else {
				got, ok := impl.OccurrencesOf(s, p, p)
				if !ok || len(got) == 0 || occurrenceKey(got[0]) != occurrenceKey(own) {
					t.Fatal(p, got, ok)
				}
				checkOccurrences(t, f, p, v, nil, true)
			}
			// The variables of the term are not counted.
			checkSameOccurrences(t, f, variableOf("w", 2), p)
		}
	}
}

// There are at most MaxOccurrences occurrences, whether they are in one part or in several ones.
func TestNumberOfOccurrences(t *testing.T) {
	s := countSignature()
	numbers := []int{3000, 10000, 16384, 16385}
	for i := range 50 {
		numbers = append(numbers, i, 40*i, 1975+i)
	}
	for _, number := range numbers {
		// What was an argument of the pattern occurs in the parts, as many times in all of them as the pattern with all of them.
		p, x := withMatches(number)
		checkNumberOfOccurrences(t, s, p.Args[1], x, number)
		checkNumberOfOccurrences(t, s, p.Args[1], apply(3, variableOf("q", 3), x), number)
	}
	p, x := withMatches(2000)
	got, _ := impl.OccurrencesOf(s, p.Args[1], x)
	for _, o := range got {
		checkInstanceTaken(t, occurrenceTextFor(s), p.Args[1], x, o)
	}
}

func checkNumberOfOccurrences(t *testing.T, s impl.Signature, p, x impl.Term, number int) {
	t.Helper()
	want := number
	if number > 2000 {
		want = 0
	}
	got, ok := impl.OccurrencesOf(s, p, x)
	if !impl.IsTerm(s, x) || ok != (number <= 2000) || len(got) != want || !ok && got != nil {
		t.Fatalf("OccurrencesOf(%v, %v) has %d, %v, want %d", p, x, len(got), ok, number)
	}
	for i, o := range got {
		if i > 0 && impl.CompareOccurrences(got[i-1], o) != -1 {
			t.Fatalf("%v before %v", got[i-1], o)
		}
	}
}

// Groups of Args count as well: in groups of all sizes of seven different Args, two variables have 1932 occurrences.
func TestNumberOfOccurrencesInGroups(t *testing.T) {
	s := limitSignature()
	p := treeOf(s, "m(x:A, y:A)")
	wide := func(letter string, count int) impl.Term { return apply(6, variableList(letter, count, 0)...) }
	for number, parts := range map[int][]impl.Term{
		1932: {wide("b", 7)},
		1982: {wide("b", 7), wide("c", 4)},
		1994: {wide("b", 7), wide("c", 4), wide("d", 3)},
		1998: {wide("b", 7), wide("c", 4), wide("d", 3), wide("e", 2), wide("f", 2)},
		1999: {wide("b", 7), wide("c", 4), wide("d", 3), wide("e", 2), wide("f", 2), apply(6, apply(0), apply(0))},
		2000: {wide("b", 7), wide("c", 4), wide("d", 3), wide("e", 2), wide("f", 2), wide("g", 2)},
		2001: {wide("b", 7), wide("c", 4), wide("d", 3), wide("e", 2), wide("f", 2), wide("g", 2), apply(6, apply(0), apply(0))},
		2002: {wide("b", 7), wide("c", 4), wide("d", 3), wide("e", 2), wide("f", 2), wide("g", 2), wide("h", 2)},
		3864: {wide("b", 7), wide("c", 7)},
	} {
		for range parts {
			x := parts[0]
			for _, part := range parts[1:] {
				x = apply(4, x, part)
			}
			checkNumberOfOccurrences(t, s, p, x, number)
			parts = append(parts[1:], parts[0])
		}
	}
}

// Variables take groups of up to seven Args in all ways: of different Args, or of equal ones.
func TestOccurrencesInGroups(t *testing.T) {
	s := limitSignature()
	for op := 5; op <= 8; op++ {
		comm, hasUnit := s.Ops[op].Comm, s.Ops[op].Unit > 0
		for variables := 2; variables <= 5; variables++ {
			p := apply(op, variableList("x", variables, 0)...)
			for count := 2; count <= 7; count++ {
				different, _ := impl.CanonicalTerm(s, apply(op, variableList("q", count, 0)...))
				equal, _ := impl.CanonicalTerm(s, apply(op, slices.Repeat([]impl.Term{apply(3, variableOf("q", 0))}, count)...))
				number, same := count*waysToShare(variables, 1, comm, hasUnit), 2*count*waysToShare(variables, 1, comm, hasUnit)
				for taken := 2; taken <= count; taken++ {
					groups, sameGroups := count-taken+1, count-taken+1
					if comm {
						groups, sameGroups = choose(count, taken), 1
					}
					number += groups * waysToShare(variables, taken, comm, hasUnit)
					same += sameGroups * waysToShare(variables, taken, false, hasUnit)
				}
				checkNumberOfOccurrences(t, s, p, different, number)
				checkNumberOfOccurrences(t, s, p, equal, same)
			}
		}
	}
}

func TestOccurrencesAtTheLimits(t *testing.T) {
	s := limitSignature()
	f := occurrenceTextFor(s)
	a, x := apply(0), variableOf("x", 0)
	for _, tree := range []impl.Term{treeOfSize(60), apply(3, treeOfSize(59)), chainOf(3, 19, a), chainOf(3, 19, x), apply(6, slices.Repeat([]impl.Term{x}, 7)...), manyCandidates()} {
		checkSameOccurrences(t, f, x, tree)
		checkSameOccurrences(t, f, a, tree)
		checkSameOccurrences(t, f, apply(3, x), tree)
		checkSameOccurrences(t, f, apply(8, x, variableOf("y", 0), variableOf("h02", 0)), tree)
		checkSameOccurrences(t, f, tree, tree)
		checkSameOccurrences(t, f, tree, apply(4, a, a))
	}
	for _, tree := range []impl.Term{treeOfSize(61), apply(3, treeOfSize(60)), chainOf(3, 20, a), chainOf(3, 20, x), apply(6, slices.Repeat([]impl.Term{x}, 8)...)} {
		checkNoPlaces(t, s, tree)
	}
}

// checkNoPlaces checks all functions for what is no term, in place of each argument.
func checkNoPlaces(t *testing.T, s impl.Signature, x impl.Term) {
	t.Helper()
	for _, other := range []impl.Term{x, variableOf("x", 0), variableOf("y", 2), apply(0), apply(3, apply(0))} {
		checkNoOccurrences(t, s, x, other)
		checkNoOccurrences(t, s, other, x)
		for _, o := range []impl.Occurrence{{}, {Path: []int{0}}, {Path: []int{1}}, {Left: []impl.Term{apply(0)}}, {Left: []impl.Term{x}, Right: []impl.Term{x}}, {Right: []impl.Term{other}}} {
			checkTaken(t, s, x, o, impl.Term{}, false)
			checkReplace(t, s, x, o, other, impl.Term{}, false)
			checkReplace(t, s, other, o, x, impl.Term{}, false)
		}
	}
}

func TestOccurrencesOfNoTerms(t *testing.T) {
	s := formSignature()
	for _, x := range append(noTerms(), impl.Term{Op: -7}, impl.Term{Op: -2}, impl.Term{Op: -1}, impl.Term{Name: "a"}, treeOf(s, "z(a, x:C)"), apply(6, leavesOf(8)...)) {
		checkNoPlaces(t, s, x)
	}
	for _, x := range treesOf(s, "x:A; a; d; g(a); c(a, b); h(a, b); l(a, b, a); m(a, b, b); u(b, b); v(b, b); w(a, a); z(b, b, b); q(a, b); k(d, a, d)") {
		for _, wrong := range unformedTrees() {
			checkNoOccurrences(t, s, wrong, x)
			checkNoOccurrences(t, s, x, wrong)
		}
	}
}

// What is left out must be found in the term, so that nothing that is no term can be.
func TestPlacesWithNoTerms(t *testing.T) {
	s := formSignature()
	f := occurrenceTextFor(s)
	for _, x := range treesOf(s, "l(a, b, a, g(a)); m(a, b, b, g(a)); w(a, g(a), g(b), a); z(b, b, g(a), g(b)); x:A; g(a); c(a, b); h(a, b); k(d, a, d)") {
		for _, wrong := range append(noTerms(), impl.Term{Op: -7}, impl.Term{Op: -1}, impl.Term{Name: "a"}) {
			for _, o := range []impl.Occurrence{{Left: []impl.Term{wrong}}, {Right: []impl.Term{wrong}}, {Left: []impl.Term{apply(0), wrong}}, {Left: []impl.Term{apply(0)}, Right: []impl.Term{wrong}}, {Left: []impl.Term{wrong, apply(1)}}} {
				checkTaken(t, s, x, o, impl.Term{}, false)
				checkReplace(t, s, x, o, apply(0), impl.Term{}, false)
			}
			for _, path := range pathsOf(x) {
				checkReplace(t, s, x, impl.Occurrence{Path: path}, wrong, impl.Term{}, false)
			}
		}
		for range 3 {
			checkPlace(t, f, x, impl.Occurrence{}, apply(0))
		}
	}
}

func TestOccurrencesInInvalidSignatures(t *testing.T) {
	right := formSignature()
	broken := append(brokenSignatures(), impl.Signature{Sorts: sortsOf(1, ""), Ops: make([]impl.Op, 1000000)})
	for _, s := range broken {
		for _, x := range append(treesOf(right, "x:A; x:C; a; d; g(a); l(a, b, a); m(a, b); z(b, b); z(x:A, y:A); q(a, b)"), impl.Term{}, impl.Term{Op: -1}) {
			checkNoPlaces(t, s, x)
		}
	}
	// Without operators there are variables.
	s := impl.Signature{Sorts: sortsOf(2, "AB")}
	f, x, y := occurrenceTextFor(s), variableOf("x", 0), variableOf("y", 1)
	checkOccurrences(t, f, y, x, []impl.Occurrence{{Match: []impl.Binding{{Var: y, To: x}}}}, true)
	checkOccurrences(t, f, x, y, nil, true)
	checkTaken(t, s, x, impl.Occurrence{}, x, true)
	checkReplace(t, s, x, impl.Occurrence{}, y, y, true)
	checkNoPlaces(t, s, apply(0))
	// Each other function has a valid signature, and SubtermAt and CompareOccurrences have none.
	checkSubterm(t, apply(5, x), []int{0}, x, true)
}

// Slices that are nil and slices that are empty are the same.
func TestOccurrencesWithEmptySlices(t *testing.T) {
	s := formSignature()
	f := occurrenceTextFor(s)
	a, b, x := apply(0), apply(1), variableOf("x", 0)
	for _, args := range [][]impl.Term{nil, {}, make([]impl.Term, 3)[:0]} {
		for _, path := range [][]int{nil, {}, make([]int, 3)[:0]} {
			emptyA, emptyX := impl.Term{Op: 0, Args: args}, impl.Term{Op: -1, Name: "x", Sort: 0, Args: args}
			o := impl.Occurrence{Path: path, Left: args, Right: args, Match: []impl.Binding{{Var: emptyX, To: emptyA}}}
			checkOccurrences(t, f, emptyX, emptyA, []impl.Occurrence{o}, true)
			checkOccurrences(t, f, x, a, []impl.Occurrence{o}, true)
			checkOccurrences(t, f, emptyA, a, []impl.Occurrence{{Path: path, Left: args}}, true)
			checkTaken(t, s, emptyA, o, a, true)
			checkReplace(t, s, emptyA, o, emptyX, x, true)
			checkReplace(t, s, apply(6, emptyA, b), o, apply(6, x, emptyA), apply(6, x, a), true)
			checkSubterm(t, apply(4, emptyA, x), path, apply(4, a, x), true)
			checkTaken(t, s, apply(6, emptyA, b, a), impl.Occurrence{Path: path, Left: []impl.Term{emptyA}, Right: args}, apply(6, b, a), true)
			checkTaken(t, s, apply(6, a, b, emptyA), impl.Occurrence{Path: path, Left: args, Right: []impl.Term{a}}, apply(6, a, b), true)
			checkTaken(t, s, apply(7, a, a, b), impl.Occurrence{Path: path, Left: []impl.Term{emptyA}, Right: args}, apply(7, a, b), true)
			checkReplace(t, s, apply(7, a, a, b), impl.Occurrence{Left: []impl.Term{emptyA}, Right: args}, emptyX, apply(7, x, a), true)
			checkCompareOccurrences(t, o, impl.Occurrence{Match: []impl.Binding{{Var: x, To: a}}}, 0)
			checkCompareOccurrences(t, impl.Occurrence{Path: path, Left: []impl.Term{emptyA}}, impl.Occurrence{Left: []impl.Term{a}}, 0)
		}
	}
}

// Deep trees, and values that contain themselves, are no terms, and there is an answer all the same.
func TestOccurrencesInGreatTrees(t *testing.T) {
	defer debug.SetMaxStack(debug.SetMaxStack(1 << 22))
	s := formSignature()
	a, x := apply(0), variableOf("x", 0)
	terms := treesOf(s, "a; x:C; l(a, b, a, g(a)); m(a, b, b, g(a)); z(b, b, g(a), g(b))")
	for _, endless := range endlessTrees() {
		for _, p := range []impl.Term{endless, apply(3, endless), apply(11, a, endless)} {
			for _, pair := range [][2]impl.Term{{p, a}, {a, p}, {x, p}, {p, x}, {p, p}} {
				if got, ok := impl.OccurrencesOf(s, pair[0], pair[1]); ok || got != nil {
					t.Fatal("occurrences in a tree without an end, with the operator", endless.Op)
				}
			}
			places := []impl.Occurrence{{Left: []impl.Term{p}}, {Right: []impl.Term{p}}, {Left: []impl.Term{p, p}}, {Left: []impl.Term{a, p}}, {Left: []impl.Term{a}, Right: []impl.Term{p}}}
			for _, term := range terms {
				for _, o := range places {
					checkNoPlace(t, s, term, o, a)
				}
				for _, o := range []impl.Occurrence{{}, {Path: []int{0}}, {Left: []impl.Term{a}}} {
					checkNoPlace(t, s, p, o, term)
					if got, ok := impl.ReplaceOccurrence(s, term, o, p); ok || !reflect.DeepEqual(got, impl.Term{}) {
						t.Fatal("a tree without an end is put in, with the operator", endless.Op)
					}
				}
			}
		}
	}
	many := impl.Occurrence{Path: make([]int, 1000000), Left: slices.Repeat([]impl.Term{a}, 1000000), Right: slices.Repeat([]impl.Term{a}, 1000000)}
	for _, term := range terms {
		for _, o := range []impl.Occurrence{many, {Path: many.Path}, {Left: many.Left}, {Right: many.Right}, {Left: many.Left, Right: many.Right}} {
			checkNoPlace(t, s, term, o, a)
		}
	}
}

// checkNoPlace checks what does not fit, and can be too great to be shown.
func checkNoPlace(t *testing.T, s impl.Signature, x impl.Term, o impl.Occurrence, u impl.Term) {
	t.Helper()
	if got, ok := impl.TakenAt(s, x, o); ok || !reflect.DeepEqual(got, impl.Term{}) {
		t.Fatal("something is taken, with the operator", x.Op)
	}
	if got, ok := impl.ReplaceOccurrence(s, x, o, u); ok || !reflect.DeepEqual(got, impl.Term{}) {
		t.Fatal("something is replaced, with the operator", x.Op)
	}
}

// randomOccurring gives a signature, a pattern and a term, in which the pattern often occurs, in a part or in some of its Args.
func randomOccurring(source *rand.Rand) (f occurrencesByText, p, x impl.Term) {
	for {
		m, _, x := randomMatching(source)
		f = occurrencesByText{m}
		if source.Intn(3) == 0 {
			x, _ = f.canonicalTerm(apply(source.Intn(len(f.s.Ops)), x, x))
		}
		if !f.isTerm(x) {
			continue
		}
		paths := pathsOf(x)
		o := impl.Occurrence{Path: paths[source.Intn(len(paths))]}
		part, _ := partAt(x, o.Path)
		if part.Op >= 0 && f.s.Ops[part.Op].Assoc {
			if cuts := f.cutsOf(part.Op, part.Args); len(cuts) > 0 {
				o = cuts[source.Intn(len(cuts))]
				part = apply(part.Op, part.Args...)
				o.Path = nil
				part, _ = f.taken(part, o)
			}
		}
		p, ok := f.canonicalTerm(generalized(source, f.matchesByText, part))
		if ok && (p.Op >= 0 || source.Intn(10) == 0) {
			return f, p, x
		}
	}
}

// What an occurrence takes is an instance of the pattern, and the occurrences of random patterns are those that the text says.
func TestWhatAnOccurrenceTakesIsAnInstance(t *testing.T) {
	source := rand.New(rand.NewSource(70))
	count := map[string]int{}
	for range 3000 {
		f, p, x := randomOccurring(source)
		number := checkSameOccurrences(t, f, p, x)
		count[fmt.Sprint(min(2, number))]++
		checkSameOccurrences(t, f, spoiltTree(source, p), x)
		checkSameOccurrences(t, f, p, spoiltTree(source, x))
		got, _ := impl.OccurrencesOf(f.s, p, x)
		for _, o := range got {
			switch {
			case len(o.Left) > 0 && len(o.Path) > 0:
				count["part of a part"]++
			case len(o.Left) > 0:
				count["part of the root"]++
			case len(o.Path) > 0:
				count["part"]++
			}
		}
	}
	for _, kind := range []string{"0", "1", "2", "part of a part", "part of the root", "part"} {
		if count[kind] < 100 {
			t.Error("too few of one kind:", count)
		}
	}
}

// The same is found by trying all assignments for each part and each group.
func TestOccurrencesByTrial(t *testing.T) {
	source := rand.New(rand.NewSource(71))
	found, tried := 0, 0
	for range 3000 {
		f, p, x := randomOccurring(source)
		want, ok := f.occurrences(p, x, func(p, x impl.Term) ([][]impl.Binding, bool) { return impl.ReferenceMatches(f.s, p, x) })
		if ok {
			tried++
			found += len(want)
			checkOccurrences(t, f, p, x, want, true)
		}
	}
	if tried < 1500 || found < 4000 {
		t.Error("too few:", tried, found)
	}
}

// All small patterns are found in all small terms, for each choice of axioms.
func TestAllSmallOccurrences(t *testing.T) {
	for choice := range 12 {
		s := oneSort(choice)
		f, found := occurrenceTextFor(s), 0
		patterns, terms := smallPatterns(s, 4), smallTerms(s, 5)
		for _, p := range patterns {
			for i, x := range terms {
				if len(x.Args) > 2 || i%5 == 0 {
					found += checkSameOccurrences(t, f, p, x)
				}
			}
		}
		if found < 150 {
			t.Error("only", found, "with the choice", choice)
		}
	}
}

// spoiltOccurrence gives an occurrence with one thing changed, after which it can fit no longer.
func spoiltOccurrence(source *rand.Rand, f occurrencesByText, x impl.Term, o impl.Occurrence) impl.Occurrence {
	part, _ := partAt(x, o.Path)
	args := append(slices.Clone(part.Args), x)
	lists := []*[]impl.Term{&o.Left, &o.Right}
	list := lists[source.Intn(2)]
	switch source.Intn(8) {
	case 0:
		o.Path = append(slices.Clone(o.Path), source.Intn(4)-1)
	case 1:
		o.Path = o.Path[:len(o.Path)/2]
	case 2:
		o.Left, o.Right = o.Right, o.Left
	case 3:
		*list = append(slices.Clone(*list), args[source.Intn(len(args))])
	case 4:
		*list = slices.Insert(slices.Clone(*list), 0, args[source.Intn(len(args))])
	case 5:
		*list = (*list)[:len(*list)/2]
	case 6:
		*list = slices.Clone(*list)
		slices.Reverse(*list)
	default:
		if *list = slices.Clone(*list); len(*list) > 0 {
			(*list)[0] = spoiltTree(source, (*list)[0])
		}
	}
	return o
}

// Whether an occurrence fits, what it takes and what replaces it are as the text says, also where it is changed.
func TestRandomPlaces(t *testing.T) {
	source := rand.New(rand.NewSource(72))
	count := map[string]int{}
	for range 3000 {
		f, p, x := randomOccurring(source)
		paths := pathsOf(x)
		o := impl.Occurrence{Path: paths[source.Intn(len(paths))]}
		part, _ := partAt(x, o.Path)
		if part.Op >= 0 && f.s.Ops[part.Op].Assoc && len(part.Args) > 2 {
			cuts := f.cutsOf(part.Op, part.Args)
			cut := cuts[source.Intn(len(cuts))]
			o.Left, o.Right = cut.Left, cut.Right
		}
		values := []impl.Term{p, x, spoiltTree(source, p), randomValue(source, f.bindingsByText, source.Intn(len(f.kinds)))}
		for _, u := range values {
			_, ok := f.replace(x, o, u)
			checkPlace(t, f, x, o, u)
			count[fmt.Sprint("replaced ", ok, len(o.Left)+len(o.Right) > 0)]++
			spoilt := spoiltOccurrence(source, f, x, o)
			count[fmt.Sprint("spoilt ", checkPlace(t, f, x, spoilt, u))]++
			checkPlace(t, f, spoiltTree(source, x), o, u)
		}
	}
	for _, kind := range []string{"replaced true true", "replaced true false", "replaced false true", "replaced false false", "spoilt true", "spoilt false"} {
		if count[kind] < 100 {
			t.Error("too few of one kind:", count)
		}
	}
}

// pathsInMemory adds the memory of the paths to seen; it tells whether none was there.
func pathsInMemory(list []impl.Occurrence, seen map[*int]bool) bool {
	fresh := true
	for _, o := range list {
		path := o.Path[:cap(o.Path)]
		for i := range path {
			fresh = fresh && !seen[&path[i]]
			seen[&path[i]] = true
		}
	}
	return fresh
}

// occurrenceNodes adds the memory of all terms in occurrences to seen; it tells whether none was there.
func occurrenceNodes(list []impl.Occurrence, seen map[*impl.Term]bool) bool {
	fresh := true
	for _, o := range list {
		fresh = nodesIn(o.Left, seen) && fresh
		fresh = nodesIn(o.Right, seen) && fresh
		fresh = bindingNodes(o.Match, seen) && fresh
	}
	return fresh
}

// spoilOccurrences changes all that is in occurrences, in unused capacity as well.
func spoilOccurrences(list []impl.Occurrence) {
	for _, o := range list {
		for i := range o.Path[:cap(o.Path)] {
			o.Path[:cap(o.Path)][i] = -77
		}
		spoilTerms(o.Left)
		spoilTerms(o.Right)
		spoilBindings(o.Match)
	}
	clear(list[:cap(list)])
}

// roomyOccurrence gives a copy of an occurrence of which all slices have unused capacity with something in it.
func roomyOccurrence(o impl.Occurrence) impl.Occurrence {
	left, right := roomyCopy(apply(0, o.Left...)), roomyCopy(apply(0, o.Right...))
	path := append(slices.Clone(o.Path), 5, 6)
	return impl.Occurrence{Path: path[:len(o.Path)], Left: left.Args, Right: right.Args, Match: roomyBindings(o.Match)}
}

// wholeOccurrence gives a copy of all that is in an occurrence, and in the unused capacity of it.
func wholeOccurrence(o impl.Occurrence) []any {
	return []any{slices.Clone(o.Path[:cap(o.Path)]), wholeOf(o.Left), wholeOf(o.Right), wholeOf(termsIn(o.Match))}
}

// checkMemoryOfOccurrences checks that the occurrences are always the same, in new memory and without a change of the arguments, and gives their number.
func checkMemoryOfOccurrences(t *testing.T, f occurrencesByText, p, x impl.Term) int {
	t.Helper()
	before, seen, paths := wholeOf([]impl.Term{p, x}), map[*impl.Term]bool{}, map[*int]bool{}
	nodesIn([]impl.Term{p, x}, seen)
	first, wantOk := impl.OccurrencesOf(f.s, p, x)
	want := occurrenceKeys(first)
	for range 3 {
		list, ok := impl.OccurrencesOf(f.s, p, x)
		if ok != wantOk || !slices.Equal(occurrenceKeys(list), want) || !occurrenceNodes(list, seen) || !pathsInMemory(list, paths) {
			t.Fatalf("an occurrence of %v in %v in %v shares memory", p, x, list)
		}
		for i, o := range list {
			if i < 20 {
				checkMemoryOfPlace(t, f, x, roomyOccurrence(o), p)
			}
			// No occurrence shares memory with those behind it.
			spoilOccurrences([]impl.Occurrence{o})
		}
		spoilOccurrences(list)
		if !reflect.DeepEqual(wholeOf([]impl.Term{p, x}), before) {
			t.Fatalf("%v and %v, before %v", p, x, before)
		}
	}
	return len(want)
}

// checkMemoryOfPlace checks the same of the functions of one occurrence.
func checkMemoryOfPlace(t *testing.T, f occurrencesByText, x impl.Term, o impl.Occurrence, u impl.Term) {
	t.Helper()
	before, beforeTerms, seen := wholeOccurrence(o), wholeOf([]impl.Term{x, u}), map[*impl.Term]bool{}
	nodesIn([]impl.Term{x, u}, seen)
	occurrenceNodes([]impl.Occurrence{o}, seen)
	for range 2 {
		taken, _ := impl.TakenAt(f.s, x, o)
		replaced, _ := impl.ReplaceOccurrence(f.s, x, o, u)
		same, _ := impl.ReplaceOccurrence(f.s, x, o, taken)
		part, _ := impl.SubtermAt(x, o.Path)
		impl.CompareOccurrences(o, o)
		results := []impl.Term{taken, replaced, same, part}
		if !nodesIn(results, seen) || orderKey(same) != orderKey(x) {
			t.Fatalf("a result for %v, %v and %v shares memory", x, o, u)
		}
		spoilTerms(results)
		if !reflect.DeepEqual(wholeOccurrence(o), before) || !reflect.DeepEqual(wholeOf([]impl.Term{x, u}), beforeTerms) {
			t.Fatalf("%v, %v and %v, before %v, %v", x, o, u, beforeTerms, before)
		}
	}
}

// Nothing of what the functions get is changed, and what they return is new.
func TestOccurrencesLeaveTheirArguments(t *testing.T) {
	source := rand.New(rand.NewSource(73))
	found := 0
	for range 1500 {
		f, p, x := randomOccurring(source)
		p, x = roomyCopy(p), roomyCopy(x)
		// Both can be the same memory, or one a part of the other one.
		switch source.Intn(6) {
		case 0:
			p = x
		case 1:
			if len(x.Args) > 0 {
				p = x.Args[0]
			}
		}
		found += checkMemoryOfOccurrences(t, f, p, x)
		// What is left out, and what is put in, can be parts of the term itself.
		for _, path := range pathsOf(x) {
			part, _ := partAt(x, path)
			if part.Op < 0 || len(part.Args) < 3 || !f.s.Ops[part.Op].Assoc || f.s.Ops[part.Op].Comm {
				continue
			}
			o := impl.Occurrence{Path: append(slices.Clone(path), 3)[:len(path)], Left: part.Args[:1]}
			checkMemoryOfPlace(t, f, x, o, part)
			checkMemoryOfPlace(t, f, x, o, part.Args[0])
		}
	}
	if found < 2000 {
		t.Error("only", found)
	}
}

// The same holds for the cases of the table, and where what replaces something is all that is left.
func TestOccurrencesAreNew(t *testing.T) {
	s := formSignature()
	f := occurrenceTextFor(s)
	for _, c := range occurrenceCases() {
		checkMemoryOfOccurrences(t, f, roomyCopy(treeOf(s, c.p)), roomyCopy(treeOf(s, c.tree)))
	}
	for _, x := range treesOf(s, "l(a, b, a, b); m(a, a, b, b); w(a, a, g(a)); z(b, b, g(a)); u(b, b); v(b, b)") {
		for _, u := range treesOf(s, "a; b; g(a); l(a, b); z(b, b)") {
			for _, path := range append(pathsOf(x), nil) {
				checkMemoryOfPlace(t, f, roomyCopy(x), roomyOccurrence(impl.Occurrence{Path: path}), roomyCopy(u))
			}
		}
	}
}

func TestOccurrencesLeaveTheSignature(t *testing.T) {
	s := fullSignature()
	f := occurrenceTextFor(s)
	for _, x := range []impl.Term{apply(0), variableOf("x", 1), overSorts(1, "AB"), overSorts(1, "BBA"), overSorts(1, "BBABCAB")} {
		for _, p := range []impl.Term{apply(0), variableOf("x", 2), overSorts(1, "BC"), overSorts(1, "CC"), overSorts(2, "A")} {
			checkSameOccurrences(t, f, p, x)
			checkPlace(t, f, x, impl.Occurrence{}, p)
			checkPlace(t, f, x, impl.Occurrence{Path: []int{0}}, p)
		}
		if !reflect.DeepEqual(withCapacity(s), withCapacity(fullSignature())) {
			t.Fatalf("%+v", withCapacity(s))
		}
	}
}
