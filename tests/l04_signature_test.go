package tests

import (
	"math"
	"math/rand"
	"reflect"
	"regexp"
	"slices"
	"strconv"
	"strings"
	"testing"

	"loop.example/g03107/impl"
)

// declOf reads a declaration such as "AB-C", with the sorts A and B of the arguments and C of the result.
// The letter behind A is the sort 1, and so on; the sign @ before A is the sort -1.
func declOf(text string) impl.Decl {
	args, result, _ := strings.Cut(text, "-")
	decl := impl.Decl{Result: int(result[0]) - 'A'}
	for i := range len(args) {
		decl.Args = append(decl.Args, int(args[i])-'A')
	}
	return decl
}

// opOf reads an operator such as "m AA-A BB-B assoc comm unit=1".
func opOf(text string) impl.Op {
	fields := strings.Split(text, " ")
	op := impl.Op{Name: fields[0]}
	for _, field := range fields[1:] {
		number, isUnit := strings.CutPrefix(field, "unit=")
		switch {
		case field == "assoc":
			op.Assoc = true
		case field == "comm":
			op.Comm = true
		case isUnit:
			op.Unit, _ = strconv.Atoi(number)
		default:
			op.Decls = append(op.Decls, declOf(field))
		}
	}
	return op
}

// signatureOf reads operators that are separated by a semicolon and a space.
func signatureOf(sorts impl.Sorts, ops string) impl.Signature {
	s := impl.Signature{Sorts: sorts}
	if ops == "" {
		return s
	}
	for _, text := range strings.Split(ops, "; ") {
		s.Ops = append(s.Ops, opOf(text))
	}
	return s
}

// twoKinds gives the sorts A and B below C, which are one kind, and D below E, which are another one.
func twoKinds() impl.Sorts {
	return sortsOf(5, "AC BC DE")
}

func wrongOps() []int {
	return append(wrongSorts(), 10, 11, 12, 13, 14, 15)
}

func namesOfNothing() []string {
	return []string{"", "if", "and", "nothing", "no such name", "\x00", strings.Repeat("q", 100000)}
}

// checkSignature checks all functions of chapter 4 for a signature of which it is known whether it is valid.
func checkSignature(t *testing.T, s impl.Signature, want bool) {
	t.Helper()
	if got := impl.IsSignature(s); got != want {
		t.Fatalf("IsSignature(%+v) = %v", s, got)
	}
	free := want
	for i, op := range s.Ops {
		index, arity := -1, -1
		if want {
			index, arity = i, len(op.Decls[0].Args)
		}
		checkFound(t, s, op.Name, index)
		checkArity(t, s, i, arity)
		free = free && !op.Assoc && op.Unit == 0
	}
	if got := impl.IsFreeSignature(s); got != free {
		t.Fatalf("IsFreeSignature(%+v) = %v", s, got)
	}
}

func checkFound(t *testing.T, s impl.Signature, name string, want int) {
	t.Helper()
	if got := impl.FindOp(s, name); got != want {
		t.Fatalf("FindOp(%+v, %q) = %d, want %d", s, name, got, want)
	}
}

func checkArity(t *testing.T, s impl.Signature, op, want int) {
	t.Helper()
	if got := impl.ArityOf(s, op); got != want {
		t.Fatalf("ArityOf(%+v, %d) = %d, want %d", s, op, got, want)
	}
}

var namePattern = regexp.MustCompile(`\A[a-zA-Z][a-zA-Z0-9]{0,11}\z`)

// kindsBySearch gives a number for each sort that two sorts share exactly if they are of one kind.
func kindsBySearch(s impl.Sorts) []int {
	both := slices.Clone(s.Subs)
	for _, sub := range s.Subs {
		both = append(both, impl.Sub{Low: sub.High, High: sub.Low})
	}
	connected := relationOf(len(s.Names), both)
	kinds := []int{}
	for k := range s.Names {
		kinds = append(kinds, 100+slices.Index(connected[k][:], true))
	}
	return kinds
}

// placesOf gives the kinds of the arguments and then of the result; false if a sort does not exist.
func placesOf(decl impl.Decl, kinds []int) ([]int, bool) {
	places := []int{}
	for _, k := range append(slices.Clone(decl.Args), decl.Result) {
		if k < 0 || k >= len(kinds) {
			return nil, false
		}
		places = append(places, kinds[k])
	}
	return places, len(decl.Args) <= 3
}

// isSignatureByText says what the text says of a signature with valid sorts, sentence by sentence.
func isSignatureByText(s impl.Signature) bool {
	kinds := kindsBySearch(s.Sorts)
	for i, op := range s.Ops {
		if !namePattern.MatchString(op.Name) || op.Name == "if" || op.Name == "and" || len(op.Decls) < 1 || len(op.Decls) > 4 {
			return false
		}
		for _, other := range s.Ops[:i] {
			if other.Name == op.Name {
				return false
			}
		}
		for _, decl := range op.Decls {
			places, ok := placesOf(decl, kinds)
			first, firstOk := placesOf(op.Decls[0], kinds)
			if !ok || !firstOk || !slices.Equal(places, first) {
				return false
			}
		}
	}
	return len(s.Ops) <= 14 && axiomsByText(s, kinds)
}

func axiomsByText(s impl.Signature, kinds []int) bool {
	for _, op := range s.Ops {
		if !op.Assoc && !op.Comm && op.Unit == 0 {
			continue
		}
		places, _ := placesOf(op.Decls[0], kinds)
		if len(places) != 3 || places[0] != places[1] {
			return false
		}
		if (op.Assoc || op.Unit != 0) && places[2] != places[0] {
			return false
		}
		if op.Unit < 0 || op.Unit > len(s.Ops) {
			return false
		}
		if op.Unit == 0 {
			continue
		}
		unit := s.Ops[op.Unit-1].Decls[0]
		if len(unit.Args) != 0 || kinds[unit.Result] != places[0] {
			return false
		}
	}
	return true
}

func TestSignatureOfNoOperators(t *testing.T) {
	for _, ops := range [][]impl.Op{nil, {}} {
		s := impl.Signature{Sorts: sortsOf(1, ""), Ops: ops}
		checkSignature(t, s, true)
		for _, name := range append(namesOfNothing(), "A") {
			checkFound(t, s, name, -1)
		}
		for _, op := range append(wrongOps(), 0, 1) {
			checkArity(t, s, op, -1)
		}
	}
	checkSignature(t, impl.Signature{}, false)
}

func TestSignatureOfInvalidSorts(t *testing.T) {
	noNames := sortsOf(2, "")
	noNames.Names[1] = "if"
	for _, sorts := range []impl.Sorts{{}, sortsOf(9, ""), sortsOf(2, "AA"), sortsOf(2, "AC"), sortsOf(3, "AB BC CA"), sortsOf(2, strings.Repeat("AB ", 17)), noNames} {
		for _, ops := range []string{"", "a -A", "a -A; f A-A; m AA-A assoc comm unit=1"} {
			s := signatureOf(sorts, ops)
			checkSignature(t, s, false)
			checkFound(t, s, "nothing", -1)
			checkArity(t, s, -1, -1)
		}
	}
}

func TestNamesOfOperators(t *testing.T) {
	cases := []struct {
		name string
		want bool
	}{
		{"a", true}, {"Z", true}, {"x1", true}, {"If", true}, {"AND", true}, {"unit", true}, {"assoc", true}, {"eq", true},
		{"abcdefghijkl", true}, {"abcdefghijklm", false},
		{"", false}, {"if", false}, {"and", false}, {"1x", false}, {"a b", false}, {" a", false}, {"a-", false}, {"é", false}, {"a\x00", false},
		{strings.Repeat("a", 100000), false},
		// An operator may have the name of a sort.
		{"A", true}, {"B", true},
	}
	for _, c := range cases {
		for place := range 14 {
			s := manyConstants(14)
			s.Ops[place].Name = c.name
			checkSignature(t, s, c.want)
		}
	}
}

// manyConstants gives the constants o0, o1 and so on.
func manyConstants(count int) impl.Signature {
	s := impl.Signature{Sorts: sortsOf(2, "")}
	for i := range count {
		s.Ops = append(s.Ops, impl.Op{Name: "o" + strconv.Itoa(i), Decls: []impl.Decl{{}}})
	}
	return s
}

func TestEqualNamesOfOperators(t *testing.T) {
	for place := range 14 {
		for other := range place {
			s := manyConstants(14)
			s.Ops[place].Name = s.Ops[other].Name
			checkSignature(t, s, false)
			checkFound(t, s, "o13", -1)
			// Names that differ only in a capital letter are different.
			s.Ops[place].Name = strings.ToUpper(s.Ops[other].Name)
			checkSignature(t, s, true)
		}
	}
	// Other declarations do not make an equal name valid.
	checkSignature(t, signatureOf(sortsOf(2, ""), "f A-A; f B-B"), false)
	checkSignature(t, signatureOf(sortsOf(2, ""), "f -A; f A-A"), false)
}

func TestNumberOfOperators(t *testing.T) {
	for count := range 20 {
		checkSignature(t, manyConstants(count), count <= 14)
	}
	checkSignature(t, impl.Signature{Sorts: sortsOf(1, ""), Ops: make([]impl.Op, 1000000)}, false)
}

func TestNumberOfDeclarations(t *testing.T) {
	for count := range 8 {
		for _, text := range []string{"-A", "B-A", "AB-C", "CBA-A"} {
			for place := range 3 {
				s := signatureOf(twoKinds(), "a -A; f A-B; g AA-A")
				s.Ops[place].Decls = slices.Repeat([]impl.Decl{declOf(text)}, count)
				checkSignature(t, s, count >= 1 && count <= 4)
			}
		}
	}
	s := signatureOf(twoKinds(), "a -A")
	s.Ops[0].Decls = make([]impl.Decl, 1000000)
	checkSignature(t, s, false)
}

func TestNumberOfArguments(t *testing.T) {
	for first := range 7 {
		for second := range 7 {
			s := signatureOf(twoKinds(), "a -A; f -B; g A-A")
			s.Ops[1].Decls = []impl.Decl{{Args: make([]int, first)}}
			checkSignature(t, s, first <= 3)
			s.Ops[1].Decls = append(s.Ops[1].Decls, impl.Decl{Args: make([]int, second), Result: 1})
			checkSignature(t, s, first == second && first <= 3)
		}
	}
	for _, place := range []int{0, 1, 2, 3} {
		s := signatureOf(twoKinds(), "f AA-A AB-A BA-B CC-C")
		checkSignature(t, s, true)
		s.Ops[0].Decls[place].Args = make([]int, 1000000)
		checkSignature(t, s, false)
	}
}

func TestSortsThatDoNotExistInDeclarations(t *testing.T) {
	for _, wrong := range append(wrongSorts(), 5, 6, 7) {
		for decl := range 4 {
			for place := range 4 {
				s := signatureOf(twoKinds(), "a -A; f ABD-C BAE-C AAD-A CCE-B")
				checkSignature(t, s, true)
				if place < 3 {
					s.Ops[1].Decls[decl].Args[place] = wrong
				} else {
					s.Ops[1].Decls[decl].Result = wrong
				}
				checkSignature(t, s, false)
				s.Ops[1].Decls = s.Ops[1].Decls[decl : decl+1]
				checkSignature(t, s, false)
			}
		}
		s := signatureOf(twoKinds(), "a -A")
		s.Ops[0].Decls[0].Result = wrong
		checkSignature(t, s, false)
	}
}

func TestKindsOfDeclarations(t *testing.T) {
	cases := []struct {
		ops  string
		want bool
	}{
		// Constants.
		{"a -A", true},
		{"a -A -A", true},
		{"a -A -C", true},
		{"a -A -B", true},
		{"a -A -B -C -A", true},
		{"a -A -D", false},
		{"a -D -A", false},
		{"a -A -B -C -E", false},
		{"a -E -D", true},
		// Arguments and results may be of different kinds, but not at one place.
		{"f A-D", true},
		{"f A-D B-E C-D", true},
		{"f A-D A-D", true},
		{"f A-D A-E", true},
		{"f A-D D-D", false},
		{"f A-D A-A", false},
		{"f A-D D-A", false},
		{"f A-D -D", false},
		{"f -D A-D", false},
		{"f A-A AA-A", false},
		{"f AD-A CE-B", true},
		{"f AD-A DA-A", false},
		{"f AD-A AA-A", false},
		{"f AD-A DD-A", false},
		{"f AD-A AD-D", false},
		{"f ADA-D BEC-E CDB-E AEA-D", true},
		{"f ADA-D BEC-E CDB-E AEA-A", false},
		{"f ADA-D BEC-E CDB-E AED-D", false},
		{"f ADA-D BEC-E CDB-E ACA-D", false},
		{"f ADA-D BEC-E CDB-E DEA-D", false},
		{"f ADA-D BEC-E DDB-E AEA-D", false},
		{"f ADA-D BAC-E CDB-E AEA-D", false},
	}
	for _, c := range cases {
		for _, before := range []string{"", "b -E; ", "b -A -B; c D-A; "} {
			checkSignature(t, signatureOf(twoKinds(), before+c.ops), c.want)
			checkSignature(t, signatureOf(twoKinds(), before+c.ops+"; last C-E"), c.want)
		}
	}
}

// Sorts of one kind may be connected by a path that goes up and down, and no sort be above both.
func TestKindsOfDistantSorts(t *testing.T) {
	zigzag := sortsOf(8, "HG FG FE DE DC BC BA")
	for a := range 8 {
		for b := range 8 {
			s := impl.Signature{Sorts: zigzag, Ops: []impl.Op{
				{Name: "e", Decls: []impl.Decl{{Result: a}, {Result: b}}},
				{Name: "m", Decls: []impl.Decl{{Args: []int{a, b}, Result: 7 - a}, {Args: []int{b, b}, Result: a}}, Assoc: true, Unit: 1},
			}}
			checkSignature(t, s, true)
			s.Sorts = sortsOf(8, "HG FG FE DE BC BA")
			checkSignature(t, s, isSignatureByText(s))
			if (a < 3) != (b < 3) {
				checkSignature(t, s, false)
			}
		}
	}
}

func TestArityOfOperatorsWithAxioms(t *testing.T) {
	for _, decl := range []string{"-A", "A-A", "AA-A", "AAA-A"} {
		for _, axioms := range []string{"assoc", "comm", "unit=1", "assoc comm", "assoc unit=1", "comm unit=1", "assoc comm unit=1"} {
			checkSignature(t, signatureOf(twoKinds(), "a -A; m "+decl+" "+axioms), decl == "AA-A")
			checkSignature(t, signatureOf(twoKinds(), "a -A; b -A; m "+decl+" "+decl+" "+axioms+"; f A-A"), decl == "AA-A")
		}
		checkSignature(t, signatureOf(twoKinds(), "a -A; m "+decl), true)
	}
}

func TestKindsOfOperatorsWithAxioms(t *testing.T) {
	cases := []struct {
		decls      string
		comm, both bool
	}{
		{"AA-A", true, true},
		{"AB-C", true, true},
		{"CA-B", true, true},
		{"AB-C BA-A CC-B", true, true},
		{"DE-D", true, false},
		// Only a commutative operator may have a result of another kind.
		{"AA-D", true, false},
		{"AB-E CC-D", true, false},
		{"AD-A", false, false},
		{"DA-A", false, false},
		{"AD-D", false, false},
		{"DA-D", false, false},
		{"CE-A BD-C", false, false},
	}
	for _, c := range cases {
		checkSignature(t, signatureOf(twoKinds(), "m "+c.decls), true)
		checkSignature(t, signatureOf(twoKinds(), "m "+c.decls+" comm"), c.comm)
		isAssoc := c.both || c.decls == "DE-D"
		checkSignature(t, signatureOf(twoKinds(), "m "+c.decls+" assoc"), isAssoc)
		checkSignature(t, signatureOf(twoKinds(), "m "+c.decls+" assoc comm"), isAssoc)
		for _, axioms := range []string{"", " assoc", " comm", " assoc comm"} {
			checkSignature(t, signatureOf(twoKinds(), "m "+c.decls+" unit=2"+axioms+"; e -A"), c.both)
			checkSignature(t, signatureOf(twoKinds(), "m "+c.decls+" unit=2"+axioms+"; e -E"), c.decls == "DE-D")
		}
	}
}

func TestUnits(t *testing.T) {
	cases := []struct {
		ops  string
		want bool
	}{
		{"e -A; m AA-A unit=1", true},
		{"e -B; m AA-A unit=1", true},
		{"e -C; m AB-A unit=1", true},
		{"e -C -A; m AB-A unit=1", true},
		{"e -D; m AA-A unit=1", false},
		{"e -D; m AA-D unit=1", false},
		{"e -A; m AA-D unit=1", false},
		{"e -A; m AA-D comm unit=1", false},
		{"m AA-A unit=2; e -A", true},
		{"m AA-A unit=1; e -A", false},
		{"m AA-A unit=1", false},
		{"e -A; m AA-A unit=2", false},
		{"e -A; f A-A; m AA-A unit=2", false},
		{"e -A; f AA-A; m AA-A unit=2", false},
		{"e -A; f AAA-A; m AA-A unit=2", false},
		{"e -A; m AA-A unit=1; n AA-A unit=2", false},
		{"e -A; m AA-A unit=1; n CC-B assoc unit=1; o DD-D comm; p BA-B comm unit=1", true},
		{"e -A; m AA-A unit=1; n DD-D assoc unit=1", false},
		{"e -A; d -E; m AA-A unit=1; n DD-D assoc unit=2", true},
		{"e -A; d -E; m AA-A unit=2; n DD-D assoc unit=2", false},
		{"e -A unit=1", false},
		{"e -A; d -A unit=1", false},
		{"e -A; f A-A unit=1", false},
		// The unit of the first operator is not valid by itself.
		{"m AA-A unit=2; e -F", false},
		{"m AA-A unit=2; e -@", false},
		{"m AA-A unit=2; e", false},
		{"m AA-A unit=2; e -A assoc", false},
	}
	for _, c := range cases {
		checkSignature(t, signatureOf(twoKinds(), c.ops), c.want)
	}
}

func TestUnitsThatDoNotExist(t *testing.T) {
	for count := 1; count <= 14; count++ {
		for _, axioms := range []string{"", " assoc", " comm", " assoc comm"} {
			s := manyConstants(count)
			s.Ops[0] = opOf("m AA-A" + axioms)
			checkSignature(t, s, true)
			for unit := 1; unit <= 16; unit++ {
				s.Ops[0].Unit = unit
				checkSignature(t, s, unit >= 2 && unit <= count)
			}
			for _, unit := range []int{-1, -2, -count, -14, math.MinInt, math.MinInt + 1, math.MaxInt, 1<<32 + 2, 1 << 62} {
				s.Ops[0].Unit = unit
				checkSignature(t, s, false)
			}
		}
	}
	// Also of an operator that could have no Unit.
	for _, decl := range []string{"-A", "A-A", "AD-A", "AAA-A"} {
		for _, unit := range []string{"-1", "3", "15", "-9223372036854775808"} {
			checkSignature(t, signatureOf(twoKinds(), "e -A; f "+decl+" unit="+unit), false)
		}
	}
}

func TestFindOp(t *testing.T) {
	s := signatureOf(twoKinds(), "a -A; ab A-A; aB AA-A comm; b -D; E DE-D assoc; x12 -A; abcdefghijkl -A")
	for i, name := range strings.Split("a ab aB b E x12 abcdefghijkl", " ") {
		checkFound(t, s, name, i)
	}
	for _, name := range append(namesOfNothing(), "A", "B", "e", "AB", "Ab", "abc", "x1", "x123", "x", "a ", " a", "abcdefghijk", "abcdefghijklm", "-A") {
		checkFound(t, s, name, -1)
	}
}

func TestArityOf(t *testing.T) {
	s := signatureOf(twoKinds(), "a -A -B; f A-A; g AD-A CE-B; h ADA-D; m AA-A assoc comm unit=1")
	for op, want := range []int{0, 1, 2, 3, 2} {
		checkArity(t, s, op, want)
	}
	for _, op := range append(wrongOps(), 5, 6) {
		checkArity(t, s, op, -1)
	}
}

func TestIsFreeSignature(t *testing.T) {
	cases := []struct {
		ops  string
		want bool
	}{
		{"", true},
		{"a -A; f A-A; g ADA-D", true},
		{"a -A; g AA-A comm", true},
		{"a -A; g AA-A comm; h DE-A comm", true},
		{"a -A; g AA-A assoc", false},
		{"a -A; g AA-A assoc comm", false},
		{"a -A; g AA-A unit=1", false},
		{"a -A; g AA-A comm unit=1", false},
		{"a -A; g AA-A assoc comm unit=1", false},
		{"g AA-A assoc; a -A; f A-A", false},
		{"g AA-A unit=2; a -A; f A-A", false},
		{"a -A; f A-A; h AA-A comm; i AA-A; g AA-A assoc", false},
		// What is not valid is not free.
		{"a -A; g AD-A comm", false},
		{"a -A; a -A", false},
		{"a -F", false},
	}
	for _, c := range cases {
		if got := impl.IsFreeSignature(signatureOf(twoKinds(), c.ops)); got != c.want {
			t.Errorf("IsFreeSignature(%q) = %v", c.ops, got)
		}
	}
}

// allDecls gives all declarations with count arguments of the first three sorts.
func allDecls(count int) []impl.Decl {
	decls := []impl.Decl{{Result: 0}, {Result: 1}, {Result: 2}}
	for range count {
		longer := []impl.Decl{}
		for _, decl := range decls {
			for k := range 3 {
				longer = append(longer, impl.Decl{Args: append(slices.Clone(decl.Args), k), Result: decl.Result})
			}
		}
		decls = longer
	}
	return decls
}

// Every operator with one or two declarations of up to two arguments, and all axioms, beside a constant of each kind.
func TestEveryOperatorOfFewArguments(t *testing.T) {
	decls := slices.Concat(allDecls(0), allDecls(1), allDecls(2))
	lists := [][]impl.Decl{nil}
	for _, first := range slices.Concat(decls, allDecls(3)) {
		lists = append(lists, []impl.Decl{first})
	}
	for _, first := range decls {
		for _, second := range decls {
			lists = append(lists, []impl.Decl{first, second})
		}
	}
	valid := 0
	for _, list := range lists {
		for axioms := range 4 {
			for unit := -1; unit <= 4; unit++ {
				s := signatureOf(sortsOf(3, "AB"), "a -A; m; c -C")
				s.Ops[1] = impl.Op{Name: "m", Decls: list, Assoc: axioms%2 == 1, Comm: axioms/2 == 1, Unit: unit}
				want := isSignatureByText(s)
				checkSignature(t, s, want)
				if want {
					valid++
				}
			}
		}
	}
	if valid < 500 {
		t.Error("only", valid, "valid ones")
	}
}

// randomDecls gives 1 to 4 declarations of an arity with sorts below count, which need not be of one kind.
func randomDecls(source *rand.Rand, arity, count int) []impl.Decl {
	decls := []impl.Decl{}
	for range 1 + source.Intn(4) {
		decl := impl.Decl{Result: source.Intn(count)}
		for range arity {
			decl.Args = append(decl.Args, source.Intn(count))
		}
		decls = append(decls, decl)
	}
	return decls
}

// randomSignature gives a signature with valid sorts, names and numbers; the kinds and axioms need not fit.
func randomSignature(source *rand.Rand) impl.Signature {
	s := impl.Signature{Sorts: sortsOf(1, "")}
	for range 20 {
		if sorts := randomSorts(source); impl.IsSorts(sorts) {
			s.Sorts = sorts
			break
		}
	}
	for i, k := range source.Perm(26)[:source.Intn(15)] {
		arity := source.Intn(4)
		op := impl.Op{Name: string(rune('a' + k)), Decls: randomDecls(source, arity, len(s.Sorts.Names))}
		if arity == 2 {
			op.Assoc, op.Comm = source.Intn(4) == 0, source.Intn(4) == 0
			op.Unit = max(0, source.Intn(3*i+1)-2*i)
		}
		s.Ops = append(s.Ops, op)
	}
	return s
}

// validPart gives the operators that can be kept, one after the other, so that the signature is valid.
func validPart(s impl.Signature) impl.Signature {
	part := impl.Signature{Sorts: s.Sorts}
	for _, op := range s.Ops {
		op.Unit = min(op.Unit, len(part.Ops))
		part.Ops = append(part.Ops, op)
		if !isSignatureByText(part) {
			part.Ops = part.Ops[:len(part.Ops)-1]
		}
	}
	return part
}

// changeOne changes one thing of a signature, which may make it invalid.
func changeOne(source *rand.Rand, s impl.Signature) {
	op := &s.Ops[source.Intn(len(s.Ops))]
	decl := &op.Decls[source.Intn(len(op.Decls))]
	k := source.Intn(len(s.Sorts.Names)+2) - 1
	switch source.Intn(9) {
	case 0:
		op.Name = s.Ops[source.Intn(len(s.Ops))].Name
	case 1:
		op.Name += "!"
	case 2:
		op.Assoc = !op.Assoc
	case 3:
		op.Comm = !op.Comm
	case 4:
		op.Unit = source.Intn(len(s.Ops)+3) - 1
	case 5:
		decl.Args = append(slices.Clone(decl.Args), k)
	case 6:
		decl.Result = k
	case 7:
		op.Decls = append(slices.Clone(op.Decls), impl.Decl{Args: []int{k, k}, Result: k})
	default:
		decl.Args = slices.Clone(decl.Args)
		for i := range decl.Args {
			decl.Args[i] = k
		}
	}
}

func TestRandomSignatures(t *testing.T) {
	source := rand.New(rand.NewSource(10))
	count := map[bool]int{}
	for range 6000 {
		s := randomSignature(source)
		checkSignature(t, s, isSignatureByText(s))
		part := validPart(s)
		checkSignature(t, part, true)
		if len(part.Ops) == 0 {
			continue
		}
		changeOne(source, part)
		want := isSignatureByText(part)
		checkSignature(t, part, want)
		count[want]++
	}
	if count[true] < 1000 || count[false] < 1000 {
		t.Error("too few of one kind:", count)
	}
}

// An operator is found by its name, wherever it stands, and a name that no operator has is not found.
func TestOperatorsAreFoundByTheirNames(t *testing.T) {
	source := rand.New(rand.NewSource(11))
	for range 2000 {
		s := validPart(randomSignature(source))
		names := strings.Split("zero next plus Times x1 x2 x3 y Y yy yyy A B C", " ")
		source.Shuffle(len(names), func(i, j int) { names[i], names[j] = names[j], names[i] })
		for i := range s.Ops {
			s.Ops[i].Name = names[i]
		}
		for i, name := range names {
			if i < len(s.Ops) {
				checkFound(t, s, name, i)
			} else {
				checkFound(t, s, name, -1)
			}
			index := impl.FindOp(s, name)
			if index >= 0 && s.Ops[index].Name != name {
				t.Fatalf("%q is found at %d in %+v", name, index, s)
			}
			if (impl.ArityOf(s, index) >= 0) != (index >= 0) {
				t.Fatalf("the arity of %q in %+v", name, s)
			}
		}
		for _, name := range namesOfNothing() {
			checkFound(t, s, name, -1)
		}
	}
}

// Kinds decide, not sorts: any sort may be replaced by one of its kind.
func TestSignaturesDependOnlyOnKinds(t *testing.T) {
	source := rand.New(rand.NewSource(12))
	for range 2000 {
		s := validPart(randomSignature(source))
		kinds := kindsBySearch(s.Sorts)
		other := func(k int) int {
			for {
				if o := source.Intn(len(kinds)); kinds[o] == kinds[k] {
					return o
				}
			}
		}
		for _, op := range s.Ops {
			for i := range op.Decls {
				op.Decls[i].Result = other(op.Decls[i].Result)
				for j := range op.Decls[i].Args {
					op.Decls[i].Args[j] = other(op.Decls[i].Args[j])
				}
			}
		}
		checkSignature(t, s, true)
	}
}

// fullSignature gives a signature, each slice of which has unused capacity with something in it.
func fullSignature() impl.Signature {
	args := []int{0, 1, -5, 99}
	decls := []impl.Decl{{Args: args[:2], Result: 2}, {Args: []int{1, 1, 7}[:2], Result: 0}, {Args: []int{9}, Result: 9}}
	ops := []impl.Op{
		{Name: "e", Decls: []impl.Decl{{Args: []int{4}[:0], Result: 1}, {Result: -1}}[:1]},
		{Name: "m", Decls: decls[:2], Assoc: true, Comm: true, Unit: 1},
		{Name: "spare", Decls: decls, Unit: -1},
	}
	names := []string{"A", "B", "C", "spare"}
	subs := []impl.Sub{{Low: 0, High: 2}, {Low: 1, High: 2}, {Low: -1, High: 99}}
	return impl.Signature{Sorts: impl.Sorts{Names: names[:3], Subs: subs[:2]}, Ops: ops[:2]}
}

// withCapacity gives a signature in which the unused capacity of each slice is used.
func withCapacity(s impl.Signature) impl.Signature {
	s.Sorts.Names = s.Sorts.Names[:cap(s.Sorts.Names)]
	s.Sorts.Subs = s.Sorts.Subs[:cap(s.Sorts.Subs)]
	s.Ops = slices.Clone(s.Ops[:cap(s.Ops)])
	for i := range s.Ops {
		s.Ops[i].Decls = slices.Clone(s.Ops[i].Decls[:cap(s.Ops[i].Decls)])
		for j := range s.Ops[i].Decls {
			s.Ops[i].Decls[j].Args = s.Ops[i].Decls[j].Args[:cap(s.Ops[i].Decls[j].Args)]
		}
	}
	return s
}

func TestSignaturesAreLeft(t *testing.T) {
	s := fullSignature()
	for range 2 {
		checkSignature(t, s, true)
		checkFound(t, s, "spare", -1)
		checkArity(t, s, 2, -1)
		if !reflect.DeepEqual(withCapacity(s), withCapacity(fullSignature())) {
			t.Fatalf("%+v", withCapacity(s))
		}
	}
	whole := withCapacity(s)
	want := withCapacity(fullSignature())
	checkSignature(t, whole, false)
	if !reflect.DeepEqual(whole, want) {
		t.Fatalf("%+v", whole)
	}
	source := rand.New(rand.NewSource(13))
	for seed := range int64(500) {
		first := randomSignature(rand.New(rand.NewSource(seed)))
		second := randomSignature(rand.New(rand.NewSource(seed)))
		op := source.Intn(15)
		impl.IsSignature(first)
		impl.FindOp(first, "a")
		impl.ArityOf(first, op)
		impl.IsFreeSignature(first)
		if !reflect.DeepEqual(first, second) {
			t.Fatalf("%+v, before %+v", first, second)
		}
	}
}

// Empty slices are as good as nil ones.
func TestSignaturesWithEmptySlices(t *testing.T) {
	s := impl.Signature{Sorts: impl.Sorts{Names: []string{"A"}, Subs: []impl.Sub{}}, Ops: []impl.Op{
		{Name: "a", Decls: []impl.Decl{{Args: []int{}}, {Args: nil}}},
		{Name: "m", Decls: []impl.Decl{{Args: []int{0, 0}}}, Unit: 1},
	}}
	checkSignature(t, s, true)
	for _, decls := range [][]impl.Decl{nil, {}} {
		s.Ops[0].Decls = decls
		checkSignature(t, s, false)
	}
}
