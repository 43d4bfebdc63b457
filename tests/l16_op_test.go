package tests

import (
	"bytes"
	"fmt"
	"math"
	"math/rand"
	"slices"
	"strings"
	"testing"

	"loop.example/g00661/impl"
)

// goodOps are one operation of each kind, in the order of the kinds, with none of the fields it uses at its zero value.
func goodOps() []impl.Op {
	return []impl.Op{
		{Kind: impl.OpSession, Name: "main", Text: "top -d 1", Dir: "/tmp"},
		{Kind: impl.OpWindow, Name: "w0rk", Text: "sh", Dir: "/"},
		{Kind: impl.OpSplit, A: 7, B: 1, Text: "vi a.c", Dir: "src"},
		{Kind: impl.OpKill, A: 7},
		{Kind: impl.OpOutput, A: 7, Data: []byte("a\x1b[1m\xff\x00")},
		{Kind: impl.OpExit, A: 7, B: 3},
		{Kind: impl.OpSelect, A: 7},
		{Kind: impl.OpZoom, A: 7},
		{Kind: impl.OpSwap, A: 7, B: 300},
		{Kind: impl.OpGrow, A: 7, B: 'U', C: 5},
		{Kind: impl.OpName, A: 7, Name: "logs"},
		{Kind: impl.OpSize, A: 80, B: 24},
		{Kind: impl.OpSpawn, A: 7, B: 300},
		{Kind: impl.OpRestart, A: 7},
	}
}

// leastOps are one operation of each kind with the least values, and longestOps one with the longest encoding.
func leastOps() []impl.Op {
	return []impl.Op{
		{Kind: impl.OpSession, Name: "a"}, {Kind: impl.OpWindow, Name: "0"}, {Kind: impl.OpSplit, A: 1}, {Kind: impl.OpKill, A: 1},
		{Kind: impl.OpOutput, A: 1, Data: []byte{0}}, {Kind: impl.OpExit, A: 1}, {Kind: impl.OpSelect, A: 1}, {Kind: impl.OpZoom, A: 1},
		{Kind: impl.OpSwap, A: 1, B: 1}, {Kind: impl.OpGrow, A: 1, B: 'D', C: 1}, {Kind: impl.OpName, A: 1, Name: "z"},
		{Kind: impl.OpSize, A: 1, B: 1}, {Kind: impl.OpSpawn, A: 1, B: 1}, {Kind: impl.OpRestart, A: 1},
	}
}

func longestOps() []impl.Op {
	name, text, dir := strings.Repeat("n", 12), strings.Repeat("\xff", 60), strings.Repeat("\u4e2d", 20)
	const most = 1000000
	return []impl.Op{
		{Kind: impl.OpSession, Name: name, Text: text, Dir: dir}, {Kind: impl.OpWindow, Name: name, Text: dir, Dir: text},
		{Kind: impl.OpSplit, A: most, B: 1, Text: text, Dir: dir}, {Kind: impl.OpKill, A: most},
		{Kind: impl.OpOutput, A: most, Data: []byte(mixedBytes(2000))}, {Kind: impl.OpExit, A: most, B: 255},
		{Kind: impl.OpSelect, A: most}, {Kind: impl.OpZoom, A: most}, {Kind: impl.OpSwap, A: most, B: most},
		{Kind: impl.OpGrow, A: most, B: 'U', C: 120}, {Kind: impl.OpName, A: most, Name: name},
		{Kind: impl.OpSize, A: 120, B: 120}, {Kind: impl.OpSpawn, A: most, B: most}, {Kind: impl.OpRestart, A: most},
	}
}

func equalOps(a, b impl.Op) bool {
	return a.Kind == b.Kind && a.A == b.A && a.B == b.B && a.C == b.C && a.Name == b.Name && a.Text == b.Text && a.Dir == b.Dir && bytes.Equal(a.Data, b.Data)
}

func opText(o impl.Op) string {
	return fmt.Sprintf("{%d A %d B %d C %d, %.20q of %d bytes, %.20q of %d, %.20q of %d, data %.20q of %d}",
		o.Kind, o.A, o.B, o.C, o.Name, len(o.Name), o.Text, len(o.Text), o.Dir, len(o.Dir), o.Data, len(o.Data))
}

// An opForm has the least and the greatest number of each field, which are both 0 if the kind does not use it.
type opForm struct {
	a, b, c             [2]int
	sides               string
	name, command, data bool
}

func opForms() map[int]opForm {
	id, side := [2]int{1, 1000000}, [2]int{1, 120}
	return map[int]opForm{
		1:  {name: true, command: true},
		2:  {name: true, command: true},
		3:  {a: id, b: [2]int{0, 1}, command: true},
		4:  {a: id},
		5:  {a: id, data: true},
		6:  {a: id, b: [2]int{0, 255}},
		7:  {a: id},
		8:  {a: id},
		9:  {a: id, b: id},
		10: {a: id, b: [2]int{'D', 'U'}, c: side, sides: "LRUD"},
		11: {a: id, name: true},
		12: {a: side, b: side},
		13: {a: id, b: id},
		14: {a: id},
	}
}

var theOpForms = opForms()

func modelOpOk(o impl.Op) bool {
	form, ok := theOpForms[o.Kind]
	within := func(n int, bounds [2]int) bool { return bounds[0] <= n && n <= bounds[1] }
	if !ok || !within(o.A, form.a) || !within(o.B, form.b) || !within(o.C, form.c) {
		return false
	}
	if form.sides != "" && !strings.ContainsRune(form.sides, rune(o.B)) {
		return false
	}
	most, least, data := 0, 0, 0
	if form.command {
		most = 60
	}
	if form.data {
		least, data = 1, 2000
	}
	if wordPattern.MatchString(o.Name) != form.name || o.Name != "" != form.name {
		return false
	}
	return len(o.Text) <= most && len(o.Dir) <= most && within(len(o.Data), [2]int{least, data})
}

// opTokens is for all operations: a number below zero is written in a way that no number is.
func opTokens(o impl.Op) tokens {
	var l tokens
	l.number("Kind", o.Kind)
	l.number("A", o.A)
	l.number("B", o.B)
	l.number("C", o.C)
	l.sized("Name", o.Name)
	l.sized("Text", o.Text)
	l.sized("Dir", o.Dir)
	l.sized("Data", string(o.Data))
	return l
}

func modelOpBytes(o impl.Op) string { return opTokens(o).join() }

func modelOpRead(text string) (impl.Op, bool) {
	r := &textReader{rest: text}
	o := impl.Op{Kind: r.number(), A: r.number(), B: r.number(), C: r.number(), Name: r.sized(), Text: r.sized(), Dir: r.sized(), Data: []byte(r.sized())}
	if r.bad || r.rest != "" || !modelOpOk(o) {
		return impl.Op{}, false
	}
	return o, true
}

// checkOpRead compares one call with its model, and tells whether there is an operation.
func checkOpRead(t *testing.T, what string, text string) bool {
	t.Helper()
	got, ok := impl.OpRead([]byte(text))
	want, wantOk := modelOpRead(text)
	if ok != wantOk || !equalOps(got, want) {
		t.Errorf("%s: OpRead of % .60x returns %s and %v; want %s and %v", what, text, opText(got), ok, opText(want), wantOk)
	}
	return ok
}

func wantNoOpRead(t *testing.T, what string, text string) {
	t.Helper()
	if o, ok := impl.OpRead([]byte(text)); ok || !equalOps(o, impl.Op{}) {
		t.Errorf("%s: OpRead of % .60x returns %s and %v; want zero values", what, text, opText(o), ok)
	}
}

// wantOp expects a valid operation, which is recovered from its encoding. It returns the encoding.
func wantOp(t *testing.T, what string, o impl.Op) string {
	t.Helper()
	if !impl.OpOk(o) || !modelOpOk(o) {
		t.Errorf("%s: OpOk of %s is %v, and %v in the model; want true", what, opText(o), impl.OpOk(o), modelOpOk(o))
	}
	b, ok := impl.OpBytes(o)
	if want := modelOpBytes(o); !ok || string(b) != want {
		t.Errorf("%s: OpBytes of %s is % .60x and %v; want % .60x and true", what, opText(o), b, ok, want)
	}
	if got, ok := impl.OpRead(b); !ok || !equalOps(got, o) {
		t.Errorf("%s: OpRead of the encoding of %s is %s and %v", what, opText(o), opText(got), ok)
	}
	return string(b)
}

// wantNoOp expects an operation that is not valid, so that it has no encoding, and what would be one is none.
func wantNoOp(t *testing.T, what string, o impl.Op) {
	t.Helper()
	if impl.OpOk(o) || modelOpOk(o) {
		t.Errorf("%s: OpOk of %s is %v, and %v in the model; want false", what, opText(o), impl.OpOk(o), modelOpOk(o))
	}
	if b, ok := impl.OpBytes(o); ok || len(b) > 0 {
		t.Errorf("%s: OpBytes of %s is % .60x and %v; want no bytes and false", what, opText(o), b, ok)
	}
	wantNoOpRead(t, what, modelOpBytes(o))
}

func checkOp(t *testing.T, what string, o impl.Op, want bool) {
	t.Helper()
	if want {
		wantOp(t, what, o)
	} else {
		wantNoOp(t, what, o)
	}
}

func TestConstantsOfOps(t *testing.T) {
	got := []int{
		impl.OpSession, impl.OpWindow, impl.OpSplit, impl.OpKill, impl.OpOutput, impl.OpExit, impl.OpSelect,
		impl.OpZoom, impl.OpSwap, impl.OpGrow, impl.OpName, impl.OpSize, impl.OpSpawn, impl.OpRestart,
	}
	for i, kind := range got {
		if kind != i+1 {
			t.Errorf("the kind %d has the number %d", i+1, kind)
		}
	}
	if impl.MaxData != 2000 {
		t.Errorf("MaxData is %d", impl.MaxData)
	}
}

func TestOpsOfEachKind(t *testing.T) {
	for _, ops := range [][]impl.Op{goodOps(), leastOps(), longestOps()} {
		for i, o := range ops {
			if o.Kind != i+1 {
				t.Fatalf("%s is not of the kind %d", opText(o), i+1)
			}
			wantOp(t, "a valid operation", o)
		}
	}
}

// outside are numbers that no field may have, among them some that would be in its range with fewer bits.
func outside() []int {
	var l []int
	for _, n := range extremeInts() {
		if n < 0 || n > 1000000 {
			l = append(l, n)
		}
	}
	return append(l, -1000001, -1000, -256, -120, -2, -1, 1000001, 1000002, 1<<20+7, 1<<32+7, 1<<32+'L', -1<<32+7, 1<<62+7, math.MinInt+7, math.MinInt+'U', impl.MaxNum, impl.MaxNum+1)
}

func TestOpsOfNoKind(t *testing.T) {
	all := append([]impl.Op{{}}, slices.Concat(goodOps(), leastOps(), longestOps())...)
	for _, kind := range append([]int{0, 15, 16, 127, 128, 255, 256, 257, 1<<8 + 14, 1<<16 + 1, 1000000}, outside()...) {
		for _, o := range all {
			o.Kind = kind
			wantNoOp(t, "no kind", o)
		}
	}
	for kind := range 16 {
		wantNoOp(t, "no field", impl.Op{Kind: kind})
	}
}

// TestOpsOfAnotherKind: the fields of one kind are those of another only where both use the same ones.
func TestOpsOfAnotherKind(t *testing.T) {
	onePane := []int{impl.OpSplit, impl.OpKill, impl.OpExit, impl.OpSelect, impl.OpZoom, impl.OpRestart}
	twoNumbers := []int{impl.OpExit, impl.OpSwap, impl.OpSize, impl.OpSpawn}
	valid := [][]int{
		{impl.OpSession, impl.OpWindow}, {impl.OpSession, impl.OpWindow}, {impl.OpSplit}, onePane, {impl.OpOutput}, twoNumbers, onePane,
		onePane, {impl.OpSwap, impl.OpSpawn}, {impl.OpGrow}, {impl.OpName}, twoNumbers, {impl.OpSwap, impl.OpSpawn}, onePane,
	}
	for i, o := range goodOps() {
		for kind := range 16 {
			o.Kind = kind
			checkOp(t, "the fields of another kind", o, slices.Contains(valid[i], kind))
		}
	}
	for _, o := range slices.Concat(leastOps(), longestOps()) {
		for kind := range 16 {
			o.Kind = kind
			checkOp(t, "the fields of another kind", o, modelOpOk(o))
		}
	}
}

// An opCase gives one field of an operation a value.
type opCase struct {
	what string
	set  func(o *impl.Op)
}

func numberCases(what string, field func(o *impl.Op) *int, numbers []int) []opCase {
	var l []opCase
	for _, n := range numbers {
		l = append(l, opCase{fmt.Sprint(what, " ", n), func(o *impl.Op) { *field(o) = n }})
	}
	return l
}

func textCases(what string, field func(o *impl.Op) *string, texts []string) []opCase {
	var l []opCase
	for _, text := range texts {
		l = append(l, opCase{fmt.Sprintf("%s %.20q", what, text), func(o *impl.Op) { *field(o) = text }})
	}
	return l
}

func setA(numbers ...int) []opCase {
	return numberCases("A", func(o *impl.Op) *int { return &o.A }, numbers)
}

func setB(numbers ...int) []opCase {
	return numberCases("B", func(o *impl.Op) *int { return &o.B }, numbers)
}

func setC(numbers ...int) []opCase {
	return numberCases("C", func(o *impl.Op) *int { return &o.C }, numbers)
}

func setName(texts ...string) []opCase {
	return textCases("Name", func(o *impl.Op) *string { return &o.Name }, texts)
}

func setText(texts ...string) []opCase {
	return textCases("Text", func(o *impl.Op) *string { return &o.Text }, texts)
}

func setDir(texts ...string) []opCase {
	return textCases("Dir", func(o *impl.Op) *string { return &o.Dir }, texts)
}

func setData(texts ...string) []opCase {
	var l []opCase
	for _, text := range texts {
		l = append(l, opCase{fmt.Sprintf("Data of %d bytes", len(text)), func(o *impl.Op) { o.Data = []byte(text) }})
	}
	return l
}

// checkCases gives a field of each of some kinds every one of the values.
func checkCases(t *testing.T, kinds []int, cases []opCase, want bool) {
	t.Helper()
	for _, kind := range kinds {
		for _, ops := range [][]impl.Op{goodOps(), leastOps(), longestOps()} {
			for _, c := range cases {
				o := ops[kind-1]
				c.set(&o)
				checkOp(t, c.what, o, want)
			}
		}
	}
}

// The kinds that use a field.
func kindsWithA() []int {
	return []int{impl.OpSplit, impl.OpKill, impl.OpOutput, impl.OpExit, impl.OpSelect, impl.OpZoom, impl.OpSwap, impl.OpGrow, impl.OpName, impl.OpSize, impl.OpSpawn, impl.OpRestart}
}

func kindsWithB() []int {
	return []int{impl.OpSplit, impl.OpExit, impl.OpSwap, impl.OpGrow, impl.OpSize, impl.OpSpawn}
}

func kindsWithName() []int    { return []int{impl.OpSession, impl.OpWindow, impl.OpName} }
func kindsWithCommand() []int { return []int{impl.OpSession, impl.OpWindow, impl.OpSplit} }

func kindsOtherThan(kinds []int) []int {
	var others []int
	for kind := 1; kind <= 14; kind++ {
		if !slices.Contains(kinds, kind) {
			others = append(others, kind)
		}
	}
	return others
}

func goodIds() []int {
	return []int{1, 2, 3, 119, 120, 121, 127, 128, 255, 256, 16383, 16384, 65536, 999999, 1000000}
}

func TestPanesWindowsAndProcessesOfOps(t *testing.T) {
	bad := append(outside(), 0)
	as := slices.DeleteFunc(kindsWithA(), func(kind int) bool { return kind == impl.OpSize })
	bs := []int{impl.OpSwap, impl.OpSpawn}
	checkCases(t, as, setA(goodIds()...), true)
	checkCases(t, as, setA(bad...), false)
	checkCases(t, bs, setB(goodIds()...), true)
	checkCases(t, bs, setB(bad...), false)
	for _, id := range goodIds() {
		wantOp(t, "a pane and itself", impl.Op{Kind: impl.OpSwap, A: id, B: id})
	}
}

func TestSizesOfOps(t *testing.T) {
	good, bad := []int{1, 2, 3, 60, 118, 119, 120}, append(outside(), 0, 121, 122, 127, 128, 255, 256, 257, 4000, 65537, 1000000)
	size, grow := []int{impl.OpSize}, []int{impl.OpGrow}
	checkCases(t, size, setA(good...), true)
	checkCases(t, size, setA(bad...), false)
	checkCases(t, size, setB(good...), true)
	checkCases(t, size, setB(bad...), false)
	checkCases(t, grow, setC(good...), true)
	checkCases(t, grow, setC(bad...), false)
	for w := 1; w <= 120; w++ {
		for h := 1; h <= 120; h++ {
			if !impl.OpOk(impl.Op{Kind: impl.OpSize, A: w, B: h}) { // also if no grid has this size
				t.Errorf("the size %d, %d is not valid", w, h)
			}
		}
	}
}

func TestDirectionsOfOps(t *testing.T) {
	split := []int{impl.OpSplit}
	checkCases(t, split, setB(0, 1), true)
	checkCases(t, split, setB(append(outside(), 2, 3, 48, 49, 127, 128, 256, 257, 1<<16+1, 1000000)...), false)
	grow := []int{impl.OpGrow}
	checkCases(t, grow, setB('L', 'R', 'U', 'D'), true)
	checkCases(t, grow, setB(append(outside(), 0, 1, 2, 3, 'L'-1, 'L'+1, 'R'-1, 'R'+1, 'U'-1, 'U'+1, 'D'-1, 'D'+1, 'l', 'r', 'u', 'd', 'L'+256, 'D'+1<<16, -'L', -'U', 'L'|'R')...), false)
	for b := -1000; b <= 70000; b++ {
		want := b == 'L' || b == 'R' || b == 'U' || b == 'D'
		if impl.OpOk(impl.Op{Kind: impl.OpGrow, A: 1, B: b, C: 1}) != want {
			t.Errorf("B %d of OpGrow is valid: %v", b, !want)
		}
	}
}

func TestExitCodesOfOps(t *testing.T) {
	exit := []int{impl.OpExit}
	checkCases(t, exit, setB(0, 1, 2, 127, 128, 254, 255), true)
	checkCases(t, exit, setB(append(outside(), 256, 257, 511, 512, 65536, 1000000)...), false)
}

func TestNamesOfOps(t *testing.T) {
	checkCases(t, kindsWithName(), setName("a", "z", "0", "9", "ab", "0a9z", "session", "012345678901", "abcdefghijkl"), true)
	checkCases(t, kindsWithName(), setName(badNames()...), false)
	checkCases(t, kindsWithName(), setName("a ", "/", ":", "`", "{", "a\x00b", "abcdefghijk\xff", strings.Repeat("0", 4001), strings.Repeat("z", 300)), false)
}

func TestCommandsOfOps(t *testing.T) {
	good := []string{"", "a", " ", "\x00", "\xff", "-", "a b\nc", "ls  -l ", strings.Repeat("x", 59), strings.Repeat("x", 60), strings.Repeat("\x80", 60), strings.Repeat("\u4e2d", 20)}
	bad := []string{strings.Repeat("x", 61), strings.Repeat("\x00", 62), strings.Repeat("\u4e2d", 21), strings.Repeat("x", 127), strings.Repeat("x", 256), strings.Repeat("x", 316), strings.Repeat("x", 4000), strings.Repeat("x", 4001), strings.Repeat("x", 65536)}
	for _, set := range []func(texts ...string) []opCase{setText, setDir} {
		checkCases(t, kindsWithCommand(), set(good...), true)
		checkCases(t, kindsWithCommand(), set(bad...), false)
	}
}

func TestDataOfOps(t *testing.T) {
	output := []int{impl.OpOutput}
	for _, n := range []int{1, 2, 127, 128, 1998, 1999, 2000} {
		checkCases(t, output, setData(mixedBytes(n), strings.Repeat("\x00", n), strings.Repeat("\xff", n)), true)
	}
	for _, n := range []int{0, 2001, 2002, 2048, 4000, 4001, 60000, 65537} {
		checkCases(t, output, setData(mixedBytes(n), strings.Repeat("\x00", n)), false)
	}
	for b := range 256 {
		wantOp(t, "a byte", impl.Op{Kind: impl.OpOutput, A: 1, Data: []byte{byte(b)}})
	}
	wantNoOp(t, "no bytes", impl.Op{Kind: impl.OpOutput, A: 1})
	wantNoOp(t, "an empty slice", impl.Op{Kind: impl.OpOutput, A: 1, Data: make([]byte, 0, 9)})
}

func TestFieldsThatAKindDoesNotUse(t *testing.T) {
	numbers := append(outside(), 1, 2, 'L', 'U', 120, 255, 256, 1<<16, 1000000)
	checkCases(t, kindsOtherThan(kindsWithA()), setA(numbers...), false)
	checkCases(t, kindsOtherThan(kindsWithB()), setB(numbers...), false)
	checkCases(t, kindsOtherThan([]int{impl.OpGrow}), setC(numbers...), false)
	texts := []string{"a", "0", "main", " ", "\x00", "\xff", "-", "A", strings.Repeat("a", 12), strings.Repeat("a", 13), strings.Repeat("a", 60), strings.Repeat("a", 4001)}
	checkCases(t, kindsOtherThan(kindsWithName()), setName(texts...), false)
	checkCases(t, kindsOtherThan(kindsWithCommand()), setText(texts...), false)
	checkCases(t, kindsOtherThan(kindsWithCommand()), setDir(texts...), false)
	checkCases(t, kindsOtherThan([]int{impl.OpOutput}), setData(append(texts, mixedBytes(2000), mixedBytes(2001))...), false)
	for _, kind := range kindsOtherThan([]int{impl.OpOutput}) {
		o := goodOps()[kind-1]
		o.Data = make([]byte, 0, 9)
		wantOp(t, "an empty slice", o)
	}
}

// TestSeveralFieldsOfOps combines values in and beside the ranges of all fields, for all kinds.
func TestSeveralFieldsOfOps(t *testing.T) {
	as, bs, cs := []int{-1, 0, 1, 120, 121, 1000000, 1000001}, []int{-120, -1, 0, 1, 2, 'L', 'M', 120, 121, 255, 256, 1000000, 1000001}, []int{-1, 0, 1, 120, 121}
	names, texts := []string{"", "a", "A", strings.Repeat("z", 13)}, []string{"", strings.Repeat("x", 60), strings.Repeat("x", 61)}
	datas := [][]byte{nil, {0}, make([]byte, 2000), make([]byte, 2001)}
	valid := map[int]int{}
	check := func(o impl.Op) {
		ok := impl.OpOk(o)
		if ok != modelOpOk(o) {
			t.Errorf("OpOk of %s is %v", opText(o), ok)
		}
		if ok {
			wantOp(t, "a combination", o)
			valid[o.Kind]++
		}
	}
	var heads []impl.Op
	for kind := -1; kind <= 16; kind++ {
		for _, a := range as {
			for _, b := range bs {
				for _, c := range cs {
					heads = append(heads, impl.Op{Kind: kind, A: a, B: b, C: c})
				}
			}
		}
	}
	for _, o := range heads {
		for _, o.Name = range names {
			for _, o.Text = range texts {
				for _, o.Dir = range texts {
					for _, o.Data = range datas {
						check(o)
					}
				}
			}
		}
	}
	// How many of the values are in the range of each field.
	want := map[int]int{
		impl.OpSession: 2 * 2, impl.OpWindow: 2 * 2, impl.OpSplit: 4 * 2 * 2 * 2, impl.OpKill: 4, impl.OpOutput: 4 * 2,
		impl.OpExit: 4 * 8, impl.OpSelect: 4, impl.OpZoom: 4, impl.OpSwap: 4 * 9, impl.OpGrow: 4 * 1 * 2, impl.OpName: 4,
		impl.OpSize: 2 * 5, impl.OpSpawn: 4 * 9, impl.OpRestart: 4,
	}
	if len(valid) != len(want) {
		t.Errorf("operations of %d kinds are valid", len(valid))
	}
	for kind, n := range want {
		if valid[kind] != n {
			t.Errorf("%d operations of the kind %d are valid; want %d", valid[kind], kind, n)
		}
	}
}

func TestOpBytesKnown(t *testing.T) {
	known := map[string]impl.Op{
		"\x01\x00\x00\x00\x01a\x00\x00\x00":                       {Kind: impl.OpSession, Name: "a"},
		"\x01\x00\x00\x00\x04main\x08top -d 1\x04/tmp\x00":        {Kind: impl.OpSession, Name: "main", Text: "top -d 1", Dir: "/tmp"},
		"\x02\x00\x00\x00\x0c0123456789az\x00\x01/\x00":           {Kind: impl.OpWindow, Name: "0123456789az", Dir: "/"},
		"\x03\x02\x01\x00\x00\x03top\x01/\x00":                    {Kind: impl.OpSplit, A: 2, B: 1, Text: "top", Dir: "/"},
		"\x03\x80\x01\x00\x00\x00\x02\x00\xff\x00\x00":            {Kind: impl.OpSplit, A: 128, Text: "\x00\xff"},
		"\x04\xc0\x84\x3d\x00\x00\x00\x00\x00\x00":                {Kind: impl.OpKill, A: 1000000},
		"\x05\x01\x00\x00\x00\x00\x00\x01\x00":                    {Kind: impl.OpOutput, A: 1, Data: []byte{0}},
		"\x05\x09\x00\x00\x00\x00\x00\x04\x1b[m\xff":              {Kind: impl.OpOutput, A: 9, Data: []byte("\x1b[m\xff")},
		"\x05\x01\x00\x00\x00\x00\x00\xd0\x0f" + mixedBytes(2000): {Kind: impl.OpOutput, A: 1, Data: []byte(mixedBytes(2000))},
		"\x06\x07\x00\x00\x00\x00\x00\x00":                        {Kind: impl.OpExit, A: 7},
		"\x06\x07\xff\x01\x00\x00\x00\x00\x00":                    {Kind: impl.OpExit, A: 7, B: 255},
		"\x07\x7f\x00\x00\x00\x00\x00\x00":                        {Kind: impl.OpSelect, A: 127},
		"\x08\xac\x02\x00\x00\x00\x00\x00\x00":                    {Kind: impl.OpZoom, A: 300},
		"\x09\x03\xac\x02\x00\x00\x00\x00\x00":                    {Kind: impl.OpSwap, A: 3, B: 300},
		"\x0a\x03L\x78\x00\x00\x00\x00":                           {Kind: impl.OpGrow, A: 3, B: 'L', C: 120},
		"\x0a\x03U\x01\x00\x00\x00\x00":                           {Kind: impl.OpGrow, A: 3, B: 'U', C: 1},
		"\x0b\x04\x00\x00\x02a1\x00\x00\x00":                      {Kind: impl.OpName, A: 4, Name: "a1"},
		"\x0c\x78\x21\x00\x00\x00\x00\x00":                        {Kind: impl.OpSize, A: 120, B: 33},
		"\x0d\x01\xc0\x84\x3d\x00\x00\x00\x00\x00":                {Kind: impl.OpSpawn, A: 1, B: 1000000},
		"\x0e\x06\x00\x00\x00\x00\x00\x00":                        {Kind: impl.OpRestart, A: 6},
		"\x01\x00\x00\x00\x01z\x3c" + strings.Repeat("\x3c", 60) + "\x3c" + strings.Repeat("\x00", 61): {
			Kind: impl.OpSession, Name: "z", Text: strings.Repeat("<", 60), Dir: strings.Repeat("\x00", 60),
		},
	}
	for want, o := range known {
		if got := wantOp(t, "a known operation", o); got != want {
			t.Errorf("OpBytes of %s is\n % x; want\n % x", opText(o), got, want)
		}
		if got, ok := impl.OpRead([]byte(want)); !ok || !equalOps(got, o) {
			t.Errorf("OpRead of % .60x is %s and %v; want %s and true", want, opText(got), ok, opText(o))
		}
	}
}

func TestLengthsOfTheLongestOps(t *testing.T) {
	want := []int{1 + 3 + 13 + 61 + 61 + 1, 1 + 3 + 13 + 61 + 61 + 1, 1 + 3 + 2 + 1 + 61 + 61 + 1, 10, 1 + 3 + 5 + 2 + 2000, 1 + 3 + 2 + 5, 10, 10, 12, 10, 22, 8, 12, 10}
	for i, o := range longestOps() {
		if text := wantOp(t, "the longest", o); len(text) != want[i] {
			t.Errorf("the encoding of %s has %d bytes; want %d", opText(o), len(text), want[i])
		}
	}
}

func TestEncodingsOfOpsAreDifferent(t *testing.T) {
	seen := map[string]impl.Op{}
	add := func(o impl.Op) {
		text := wantOp(t, "one of many", o)
		if other, ok := seen[text]; ok && !equalOps(other, o) {
			t.Errorf("%s and %s have the same encoding", opText(other), opText(o))
		}
		seen[text] = o
	}
	for _, a := range goodIds() {
		for _, b := range goodIds() {
			add(impl.Op{Kind: impl.OpSwap, A: a, B: b})
			add(impl.Op{Kind: impl.OpSpawn, A: a, B: b})
		}
		for code := range 256 {
			add(impl.Op{Kind: impl.OpExit, A: a, B: code})
		}
		for _, side := range "LRUD" {
			add(impl.Op{Kind: impl.OpGrow, A: a, B: int(side), C: 1 + a%120})
		}
	}
	texts := []string{"", "a", "\x01", "\x00", "\x01a", "a\x00", "a\x01a", "\x00\x00"}
	for _, text := range texts {
		for _, dir := range texts {
			for _, name := range []string{"a", "aa", "1"} {
				add(impl.Op{Kind: impl.OpSession, Name: name, Text: text, Dir: dir})
				add(impl.Op{Kind: impl.OpWindow, Name: name, Text: text, Dir: dir})
			}
			add(impl.Op{Kind: impl.OpSplit, A: 1, B: 1, Text: text, Dir: dir})
			add(impl.Op{Kind: impl.OpSplit, A: 1, Text: text, Dir: dir})
		}
	}
	if want := 15*(2*15+256+4) + 64*8; len(seen) != want {
		t.Errorf("%d encodings; want %d", len(seen), want)
	}
}

// readOps are those whose encodings the tests change in every place.
func readOps() []impl.Op {
	return slices.Concat(goodOps(), leastOps(), longestOps(), []impl.Op{{Kind: impl.OpOutput, A: 130, Data: []byte(mixedBytes(128))}})
}

func TestTornEncodingsOfOps(t *testing.T) {
	wantNoOpRead(t, "no bytes", "")
	if o, ok := impl.OpRead(nil); ok || !equalOps(o, impl.Op{}) {
		t.Error("OpRead of nil returns an operation")
	}
	for _, o := range readOps() {
		text := modelOpBytes(o)
		for n := range text {
			wantNoOpRead(t, "the beginning of an encoding", text[:n])
			if n > 0 {
				checkOpRead(t, "the end of an encoding", text[n:])
			}
		}
		for b := range 256 {
			wantNoOpRead(t, "a byte more", text+string([]byte{byte(b)}))
			checkOpRead(t, "a byte before it", string([]byte{byte(b)})+text)
		}
		wantNoOpRead(t, "twice the same", text+text)
		wantNoOpRead(t, "many bytes behind it", text+strings.Repeat("\x00", 100000))
	}
	for _, b := range []string{"\x00", "\x01", "\x05", "\x7f", "\x80", "\xff"} {
		for n := range 30 {
			wantNoOpRead(t, "equal bytes", strings.Repeat(b, n))
		}
		wantNoOpRead(t, "very many equal bytes", strings.Repeat(b, 1000000))
		wantNoOpRead(t, "very many bytes behind a beginning", "\x05\x01\x00\x00\x00\x00\x00"+strings.Repeat(b, 1000000))
	}
}

func TestEncodingsOfOpsWithAChangedByte(t *testing.T) {
	read := 0
	for _, o := range readOps() {
		text := modelOpBytes(o)
		for at := range text {
			if at > 150 && at < len(text)-3 {
				continue
			}
			for n := range 256 {
				b := string([]byte{byte(n)})
				if checkOpRead(t, "a changed byte", text[:at]+b+text[at+1:]) {
					read++
				}
				checkOpRead(t, "a byte within it", text[:at]+b+text[at:])
			}
			checkOpRead(t, "without a byte", text[:at]+text[at+1:])
		}
	}
	if read < 10000 {
		t.Errorf("only %d changed encodings are read", read)
	}
}

func TestEncodingsOfOpsWithAChangedNumber(t *testing.T) {
	limits := []int{0, 1, 2, 3, 4, 5, 6, 7, 8, 9, 10, 11, 12, 13, 14, 15, 16, 60, 61, 68, 76, 82, 85, 120, 121, 127, 128, 255, 256, 1999, 2000, 2001, 4000, 4001, 16384, 999999, 1000000, 1000001, 1 << 31, impl.MaxNum - 1, impl.MaxNum}
	for _, o := range readOps() {
		l := opTokens(o)
		for at, x := range l {
			if x.isText {
				continue
			}
			for _, n := range append(limits, x.number+1, x.number+128, x.number+256, x.number+1<<16, x.number+1<<31) {
				changed := l.with(at, varint(n))
				checkOpRead(t, x.what+" is another number", changed)
				checkOpRead(t, x.what+" is another number, with more behind it", changed+strings.Repeat("\x00", 5000))
			}
			checkOpRead(t, "without "+x.what, l.with(at, ""))
			checkOpRead(t, "twice "+x.what, l.with(at, x.text+x.text))
		}
	}
}

// TestNumbersOfOpsThatAreNotTheShortest: each number and each length in one of the ways that PutVar never writes.
func TestNumbersOfOpsThatAreNotTheShortest(t *testing.T) {
	for _, o := range readOps() {
		l := opTokens(o)
		for at, x := range l {
			if x.isText {
				continue
			}
			last := len(x.text) - 1
			longer := x.text[:last] + string([]byte{x.text[last] | 128})
			wantNoOpRead(t, x.what+" with a zero byte", l.with(at, longer+"\x00"))
			wantNoOpRead(t, x.what+" with two zero bytes", l.with(at, longer+"\x80\x00"))
			wantNoOpRead(t, x.what+" with many zero bytes", l.with(at, longer+"\x80\x80\x80\x80\x80\x80\x80\x80\x00"))
			wantNoOpRead(t, x.what+" as the last one, without an end", l[:at].join()+longer)
			for _, other := range append(badVars(), longer, longer+"\x80\x80\x80\x10") {
				checkOpRead(t, x.what+" is no number", l.with(at, other))
			}
		}
	}
}

// TestStringsOfEncodedOps: each string with every length near a limit, in place of the one that was encoded.
func TestStringsOfEncodedOps(t *testing.T) {
	most := map[string]int{"Name": 12, "Text": 60, "Dir": 60, "Data": 2000}
	usedBy := map[string][]int{"Name": kindsWithName(), "Text": kindsWithCommand(), "Dir": kindsWithCommand(), "Data": {impl.OpOutput}}
	for _, o := range readOps() {
		l := opTokens(o)
		for at, x := range l {
			if !x.isText {
				continue
			}
			with := func(size int, text string) string { return l[:at-1].join() + varint(size) + text + l[at+1:].join() }
			for _, n := range []int{0, 1, 11, 12, 13, 59, 60, 61, 127, 128, 1999, 2000, 2001, 3999, 4000, 4001, 5000, 70000} {
				text := strings.Repeat("q", n)
				want := n == 0
				if slices.Contains(usedBy[x.what], o.Kind) {
					want = n <= most[x.what] && (n > 0 || most[x.what] == 60)
				}
				if checkOpRead(t, "another "+x.what, with(n, text)) != want {
					t.Errorf("%s of %d bytes in place of that of %s is read: %v", x.what, n, opText(o), !want)
				}
				checkOpRead(t, "a byte less than the length of "+x.what, with(n+1, text))
				checkOpRead(t, "a byte more than the length of "+x.what, with(max(n-1, 0), text))
			}
			for _, n := range []int{len(l.join()), 2001, 4000, 4001, 1 << 31, impl.MaxNum} {
				if n > len(l.join()) {
					wantNoOpRead(t, "more bytes of "+x.what+" than there are", with(n, x.text))
				}
			}
		}
	}
	for _, name := range badNames() {
		for _, o := range goodOps() {
			o.Name = name
			if name != "" || slices.Contains(kindsWithName(), o.Kind) {
				wantNoOpRead(t, "a name that is no word", modelOpBytes(o))
			}
		}
	}
}

func randomOf[T any](r *rand.Rand, l []T) T { return l[r.Intn(len(l))] }

func randomBytes(r *rand.Rand, most int) string {
	b := make([]byte, r.Intn(most+1))
	for i := range b {
		b[i] = byte(r.Intn(256))
	}
	return string(b)
}

// randomValidOp takes each number from the range of its field.
func randomValidOp(r *rand.Rand) impl.Op {
	const letters = "abcdefghijklmnopqrstuvwxyz0123456789"
	o := impl.Op{Kind: 1 + r.Intn(14)}
	form := theOpForms[o.Kind]
	number := func(bounds [2]int) int {
		return randomOf(r, []int{bounds[0], bounds[1], bounds[0] + r.Intn(bounds[1]-bounds[0]+1)})
	}
	o.A, o.B, o.C = number(form.a), number(form.b), number(form.c)
	if form.sides != "" {
		o.B = int(randomOf(r, []byte(form.sides)))
	}
	if form.name {
		for range 1 + r.Intn(12) {
			o.Name += string(randomOf(r, []byte(letters)))
		}
	}
	if form.command {
		o.Text, o.Dir = randomBytes(r, 60), randomBytes(r, 60)
	}
	if form.data {
		o.Data = []byte("x" + randomBytes(r, randomOf(r, []int{0, 20, 1999})))
	}
	return o
}

// brokenOp gives one or two fields of an operation other values, which may be in their range or not.
func brokenOp(r *rand.Rand, o impl.Op) impl.Op {
	numbers := append(outside(), 0, 1, 2, 'L', 'R', 'U', 'D', 120, 121, 255, 256, 1000000)
	texts := append(badNames(), "a", "b1", strings.Repeat("a", 60), strings.Repeat("a", 61), mixedBytes(2000), mixedBytes(2001))
	for range 1 + r.Intn(2) {
		n, text := randomOf(r, numbers), randomOf(r, texts)
		switch r.Intn(8) {
		case 0:
			o.Kind = r.Intn(17) - 1
		case 1:
			o.A = n
		case 2:
			o.B = n
		case 3:
			o.C = n
		case 4:
			o.Name = text
		case 5:
			o.Text = text
		case 6:
			o.Dir = text
		case 7:
			o.Data = []byte(text)
		}
	}
	return o
}

func TestRandomOps(t *testing.T) {
	r := rand.New(rand.NewSource(16))
	valid, read := 0, 0
	for range 20000 {
		o := randomValidOp(r)
		text := wantOp(t, "a random operation", o)
		other := brokenOp(r, o)
		ok := modelOpOk(other)
		checkOp(t, "a changed random operation", other, ok)
		if ok {
			valid++
		}
		broken := []byte(text)
		for range 1 + r.Intn(3) {
			at := r.Intn(len(broken) + 1)
			broken = slices.Concat(broken[:at], []byte(randomOf(r, []string{"", "\x00", "\x01", "\x80", string([]byte{byte(r.Intn(256))})})), broken[min(len(broken), at+r.Intn(3)):])
		}
		if checkOpRead(t, "a changed encoding", string(broken)) {
			read++
		}
		checkOpRead(t, "random bytes", string([]byte{byte(r.Intn(16))})+randomBytes(r, 12))
		if t.Failed() {
			t.FailNow()
		}
	}
	if valid < 1000 || read < 1000 {
		t.Errorf("%d changed operations are valid, and %d changed encodings are read", valid, read)
	}
}

// opResults calls the functions of the chapter.
func opResults(o impl.Op, code []byte) ([]byte, impl.Op, bool) {
	b, _ := impl.OpBytes(o)
	read, _ := impl.OpRead(code)
	impl.OpRead(code[:len(code)/2])
	return b, read, impl.OpOk(o)
}

func TestOpFunctionsLeaveTheirArgumentsAlone(t *testing.T) {
	for _, sample := range append(readOps(), impl.Op{Kind: impl.OpKill, A: 7, Data: []byte("not used")}, impl.Op{Kind: 15, Data: []byte("no kind")}) {
		for _, encoded := range readOps() {
			o := sample
			data, allData := withSpare(string(sample.Data))
			o.Data = data
			code, allCode := withSpare(modelOpBytes(encoded))
			dataBefore, codeBefore := string(allData), string(allCode)
			unchanged := func(when string) {
				t.Helper()
				if string(allData) != dataBefore || !equalOps(o, sample) {
					t.Errorf("%s: the operation %s, or the spare capacity behind it, is changed", when, opText(sample))
				}
				if string(allCode) != codeBefore {
					t.Errorf("%s: the encoding of %s, or the spare capacity behind it, is changed", when, opText(encoded))
				}
			}
			b, read, ok := opResults(o, code)
			unchanged("after the calls")
			text, wasRead := string(b), read
			wasRead.Data = bytes.Clone(read.Data)
			overwrite(b)
			overwrite(read.Data)
			unchanged("after the results were overwritten")
			b, read, again := opResults(o, code)
			if string(b) != text || !equalOps(read, wasRead) || again != ok {
				t.Errorf("the results of %s and %s are others the second time", opText(sample), opText(encoded))
			}
			overwrite(allData)
			overwrite(allCode)
			if string(b) != text || !equalOps(read, wasRead) {
				t.Errorf("the results of %s and %s are changed with the arguments", opText(sample), opText(encoded))
			}
		}
	}
}
