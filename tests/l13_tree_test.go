package tests

import (
	"fmt"
	"math"
	"math/rand"
	"slices"
	"testing"

	"loop.example/g00661/impl"
)

func lone(pane int) []impl.Node { return []impl.Node{{Pane: pane}} }

func splitOf(down bool, first int, a, b []impl.Node) []impl.Node {
	return slices.Concat([]impl.Node{{Down: down, First: first}}, a, b)
}

func beside(first int, a, b []impl.Node) []impl.Node { return splitOf(false, first, a, b) }

func below(first int, a, b []impl.Node) []impl.Node { return splitOf(true, first, a, b) }

// sampleTree has the pane 1 at the left, 2 over 3 in the middle, and 4 at the right.
func sampleTree() []impl.Node {
	return beside(4, lone(1), beside(3, below(2, lone(2), lone(3)), lone(4)))
}

// crossTree has four panes around a crossing of the separators: 1 and 2 over 3 and 4.
func crossTree() []impl.Node {
	return below(2, beside(4, lone(1), lone(2)), beside(4, lone(3), lone(4)))
}

// chain has the leaves 1 to n, with a split in one of the parts of every split but the innermost one.
func chain(n int, down bool, inFirst bool, first int) []impl.Node {
	l := lone(n)
	for pane := n - 1; pane >= 1; pane-- {
		if inFirst {
			l = splitOf(down, first, l, lone(pane))
		} else {
			l = splitOf(down, first, lone(pane), l)
		}
	}
	return l
}

// balanced has the leaves from pane on, 2 to the power of depth in number, in directions that alternate.
func balanced(depth int, pane int, first int) []impl.Node {
	if depth == 0 {
		return lone(pane)
	}
	return splitOf(depth%2 == 0, first, balanced(depth-1, pane, first), balanced(depth-1, pane+1<<(depth-1), first))
}

// modelNode is a node with its place in the tree: the index of the split above it, or -1, and its area.
type modelNode struct {
	impl.Node
	above  int
	second bool
	area   impl.Rect
}

// modelNodes gives every node to the innermost part that is still missing.
func modelNodes(l []impl.Node) ([]modelNode, bool) {
	missing := []modelNode{{above: -1}}
	panes := map[int]bool{}
	var parts []modelNode
	for i, n := range l {
		if len(missing) == 0 || i >= 31 {
			return nil, false
		}
		p := missing[len(missing)-1]
		missing = missing[:len(missing)-1]
		p.Node = n
		parts = append(parts, p)
		switch {
		case n.Pane == 0 && n.First >= 1 && n.First <= 120:
			missing = append(missing, modelNode{above: i, second: true}, modelNode{above: i})
		case n.Pane >= 1 && n.Pane <= 1000000 && !n.Down && n.First == 0 && !panes[n.Pane]:
			panes[n.Pane] = true
		default:
			return nil, false
		}
	}
	if len(missing) > 0 {
		return nil, false
	}
	return parts, true
}

func modelTreeOk(l []impl.Node) bool {
	_, ok := modelNodes(l)
	return ok
}

// modelFirst returns what Places uses for the First of a split, and its number of columns or rows.
func modelFirst(p modelNode) (int, int) {
	n := p.area.W
	if p.Down {
		n = p.area.H
	}
	if p.First > n-2 {
		return n - 2, n
	}
	return p.First, n
}

func modelArea(above modelNode, second bool) impl.Rect {
	a := above.area
	f, _ := modelFirst(above)
	switch {
	case above.Down && second:
		return impl.Rect{X: a.X, Y: a.Y + f + 1, W: a.W, H: a.H - f - 1}
	case above.Down:
		return impl.Rect{X: a.X, Y: a.Y, W: a.W, H: f}
	case second:
		return impl.Rect{X: a.X + f + 1, Y: a.Y, W: a.W - f - 1, H: a.H}
	}
	return impl.Rect{X: a.X, Y: a.Y, W: f, H: a.H}
}

// modelPlaced relies on the order of the nodes: a split comes before its parts.
func modelPlaced(l []impl.Node, w int, h int) ([]modelNode, bool) {
	parts, ok := modelNodes(l)
	if !ok || w < 1 || w > 120 || h < 1 || h > 120 {
		return nil, false
	}
	for i := range parts {
		p := &parts[i]
		p.area = impl.Rect{W: w, H: h}
		if p.above >= 0 {
			p.area = modelArea(parts[p.above], p.second)
		}
		if _, n := modelFirst(*p); p.Pane == 0 && n < 3 {
			return nil, false
		}
	}
	return parts, true
}

func modelPlaces(l []impl.Node, w int, h int) ([]impl.Rect, bool) {
	parts, ok := modelPlaced(l, w, h)
	var places []impl.Rect
	for _, p := range parts {
		if p.Pane != 0 {
			p.area.Pane = p.Pane
			places = append(places, p.area)
		}
	}
	return places, ok
}

func modelLeaves(l []impl.Node) []int {
	parts, _ := modelNodes(l)
	var panes []int
	for _, p := range parts {
		if p.Pane != 0 {
			panes = append(panes, p.Pane)
		}
	}
	return panes
}

// modelLeaf returns the index of a leaf, or -1.
func modelLeaf(parts []modelNode, pane int) int {
	return slices.IndexFunc(parts, func(p modelNode) bool { return p.Pane == pane && pane != 0 })
}

func modelPlaceOf(l []impl.Node, w int, h int, pane int) (impl.Rect, bool) {
	places, _ := modelPlaces(l, w, h)
	at := slices.IndexFunc(places, func(r impl.Rect) bool { return r.Pane == pane })
	if at < 0 {
		return impl.Rect{}, false
	}
	return places[at], true
}

func modelSplit(l []impl.Node, pane int, fresh int, down bool, w int, h int) ([]impl.Node, bool) {
	place, ok := modelPlaceOf(l, w, h, pane)
	n := place.W
	if down {
		n = place.H
	}
	if !ok || n < 3 {
		return nil, false
	}
	var after []impl.Node
	for _, node := range l {
		if node.Pane == pane {
			after = append(after, impl.Node{Down: down, First: (n - 1) / 2}, node, impl.Node{Pane: fresh})
		} else {
			after = append(after, node)
		}
	}
	if !modelTreeOk(after) {
		return nil, false
	}
	return after, true
}

// modelCut leaves out the leaf and the split above it, so that the other part follows where the split was.
func modelCut(l []impl.Node, pane int) ([]impl.Node, bool) {
	parts, ok := modelNodes(l)
	at := modelLeaf(parts, pane)
	if !ok || at < 0 || parts[at].above < 0 {
		return nil, false
	}
	var after []impl.Node
	for i, node := range l {
		if i != at && i != parts[at].above {
			after = append(after, node)
		}
	}
	return after, true
}

func modelSwap(l []impl.Node, a int, b int) ([]impl.Node, bool) {
	parts, ok := modelNodes(l)
	if !ok || modelLeaf(parts, a) < 0 || modelLeaf(parts, b) < 0 {
		return nil, false
	}
	var after []impl.Node
	for _, node := range l {
		switch node.Pane {
		case a:
			node.Pane = b
		case b:
			node.Pane = a
		}
		after = append(after, node)
	}
	return after, true
}

// modelGrow goes up from the leaf, up to the first split of the direction.
func modelGrow(l []impl.Node, pane int, down bool, by int, w int, h int) ([]impl.Node, bool) {
	parts, ok := modelPlaced(l, w, h)
	at := modelLeaf(parts, pane)
	if !ok || at < 0 || by < -120 || by > 120 {
		return nil, false
	}
	for parts[at].above >= 0 {
		up := parts[at].above
		if parts[up].Down != down {
			at = up
			continue
		}
		f, n := modelFirst(parts[up])
		if parts[at].second {
			f -= by
		} else {
			f += by
		}
		after := slices.Clone(l)
		after[up].First = nearest(f-1, n-2) + 1
		if _, ok := modelPlaced(after, w, h); !ok {
			return nil, false
		}
		return after, true
	}
	return nil, false
}

func modelAfter(l []impl.Node, pane int) int {
	panes := modelLeaves(l)
	for i, p := range panes {
		if p == pane {
			return append(panes[1:], panes[0])[i]
		}
	}
	return 0
}

// paintedPanes returns the pane of every cell, by rows, with 0 for the separators.
func paintedPanes(places []impl.Rect, w int, h int) [][]int {
	rows := make([][]int, h)
	for y := range rows {
		rows[y] = make([]int, w)
	}
	for _, r := range places {
		for y := range r.H {
			for x := range r.W {
				rows[r.Y+y][r.X+x] = r.Pane
			}
		}
	}
	return rows
}

// modelBeside looks behind the separator from every cell at the edge of a pane.
func modelBeside(l []impl.Node, pane int, side int, w int, h int) int {
	places, _ := modelPlaces(l, w, h)
	own, ok := modelPlaceOf(l, w, h, pane)
	if !ok {
		return 0
	}
	rows := paintedPanes(places, w, h)
	found := map[int]bool{}
	look := func(x, y int) {
		if 0 <= x && x < w && 0 <= y && y < h && rows[y][x] != 0 {
			found[rows[y][x]] = true
		}
	}
	for y := own.Y; y < own.Y+own.H; y++ {
		switch side {
		case 'L':
			look(own.X-2, y)
		case 'R':
			look(own.X+own.W+1, y)
		}
	}
	for x := own.X; x < own.X+own.W; x++ {
		switch side {
		case 'U':
			look(x, own.Y-2)
		case 'D':
			look(x, own.Y+own.H+1)
		}
	}
	for _, r := range places {
		if found[r.Pane] {
			return r.Pane
		}
	}
	return 0
}

// wantNodes compares a result of Split, Cut, Swap or Grow, and asks that it is valid if there is one.
func wantNodes(t *testing.T, got []impl.Node, ok bool, want []impl.Node, wantOk bool, what string, values ...any) {
	t.Helper()
	if !slices.Equal(got, want) || ok != wantOk || impl.TreeOk(got) != wantOk {
		t.Fatalf("%s returns %v, %v, and TreeOk of it is %v; want %v, %v", fmt.Sprintf(what, values...), got, ok, impl.TreeOk(got), want, wantOk)
	}
}

func wantPlaces(t *testing.T, l []impl.Node, w int, h int, want []impl.Rect, wantOk bool) {
	t.Helper()
	got, ok := impl.Places(l, w, h)
	if !slices.Equal(got, want) || ok != wantOk {
		t.Fatalf("Places of %v in %d, %d returns %v, %v; want %v, %v", l, w, h, got, ok, want, wantOk)
	}
}

func wantPlaceOf(t *testing.T, l []impl.Node, w int, h int, pane int, want impl.Rect, wantOk bool) {
	t.Helper()
	got, ok := impl.PlaceOf(l, w, h, pane)
	if got != want || ok != wantOk {
		t.Fatalf("PlaceOf of %d of %v in %d, %d returns %v, %v; want %v, %v", pane, l, w, h, got, ok, want, wantOk)
	}
}

func wantBeside(t *testing.T, l []impl.Node, pane int, side int, w int, h int, want int) {
	t.Helper()
	if got := impl.Beside(l, pane, side, w, h); got != want {
		t.Fatalf("Beside of %d of %v in %d, %d, side %q, returns %d; want %d", pane, l, w, h, rune(side), got, want)
	}
}

func checkSplit(t *testing.T, l []impl.Node, pane int, fresh int, down bool, w int, h int) {
	t.Helper()
	got, ok := impl.Split(l, pane, fresh, down, w, h)
	want, wantOk := modelSplit(l, pane, fresh, down, w, h)
	wantNodes(t, got, ok, want, wantOk, "Split of %d of %v, for %d, down: %v, in %d, %d,", pane, l, fresh, down, w, h)
}

func checkCut(t *testing.T, l []impl.Node, pane int) {
	t.Helper()
	got, ok := impl.Cut(l, pane)
	want, wantOk := modelCut(l, pane)
	wantNodes(t, got, ok, want, wantOk, "Cut of %d of %v", pane, l)
}

func checkSwap(t *testing.T, l []impl.Node, a int, b int) {
	t.Helper()
	got, ok := impl.Swap(l, a, b)
	want, wantOk := modelSwap(l, a, b)
	wantNodes(t, got, ok, want, wantOk, "Swap of %d and %d of %v", a, b, l)
}

func checkGrow(t *testing.T, l []impl.Node, pane int, down bool, by int, w int, h int) {
	t.Helper()
	got, ok := impl.Grow(l, pane, down, by, w, h)
	want, wantOk := modelGrow(l, pane, down, by, w, h)
	wantNodes(t, got, ok, want, wantOk, "Grow of %d of %v, down: %v, by %d in %d, %d,", pane, l, down, by, w, h)
}

// panesAround are the panes of a list of nodes, as far as it has any, and some that no tree of these tests has.
func panesAround(l []impl.Node) []int {
	panes := []int{0, -1, 1000000, 1000001, 77}
	for _, n := range l {
		if !slices.Contains(panes, n.Pane) {
			panes = append(panes, n.Pane)
		}
	}
	return panes
}

// checkList compares what does not depend on an area with the models, for a list of nodes that may be no tree.
func checkList(t *testing.T, l []impl.Node) {
	t.Helper()
	if impl.TreeOk(l) != modelTreeOk(l) || !slices.Equal(impl.Leaves(l), modelLeaves(l)) {
		t.Fatalf("%v: TreeOk is %v, and the Leaves are %v; want %v, %v", l, impl.TreeOk(l), impl.Leaves(l), modelTreeOk(l), modelLeaves(l))
	}
	for _, pane := range panesAround(l) {
		checkCut(t, l, pane)
		if got, want := impl.After(l, pane), modelAfter(l, pane); got != want {
			t.Fatalf("After %d of %v comes %d; want %d", pane, l, got, want)
		}
		for _, other := range panesAround(l) {
			checkSwap(t, l, pane, other)
		}
	}
}

// checkArea compares what depends on an area with the models, for a list of nodes that may be no tree.
func checkArea(t *testing.T, l []impl.Node, w int, h int, amounts []int) {
	t.Helper()
	want, wantOk := modelPlaces(l, w, h)
	wantPlaces(t, l, w, h, want, wantOk)
	for _, pane := range panesAround(l) {
		place, ok := modelPlaceOf(l, w, h, pane)
		wantPlaceOf(t, l, w, h, pane, place, ok)
		for _, down := range []bool{false, true} {
			checkSplit(t, l, pane, 99, down, w, h)
			for _, by := range amounts {
				checkGrow(t, l, pane, down, by, w, h)
			}
		}
		for _, side := range []int{'L', 'R', 'U', 'D', 'X'} {
			wantBeside(t, l, pane, side, w, h, modelBeside(l, pane, side, w, h))
		}
	}
	if wantOk {
		checkCovered(t, l, w, h)
	}
}

// checkCovered counts how often each cell is in a place or in the separator of a split.
func checkCovered(t *testing.T, l []impl.Node, w int, h int) {
	t.Helper()
	parts, _ := modelPlaced(l, w, h)
	areas, _ := impl.Places(l, w, h)
	for _, p := range parts {
		a := p.area
		f, _ := modelFirst(p)
		switch {
		case p.Pane != 0:
		case p.Down:
			areas = append(areas, impl.Rect{X: a.X, Y: a.Y + f, W: a.W, H: 1})
		default:
			areas = append(areas, impl.Rect{X: a.X + f, Y: a.Y, W: 1, H: a.H})
		}
	}
	count := make([]int, w*h)
	for _, a := range areas {
		if a.W < 1 || a.H < 1 || a.X < 0 || a.Y < 0 || a.X+a.W > w || a.Y+a.H > h {
			t.Fatalf("%v in %d, %d: there is no such place: %v", l, w, h, a)
		}
		for y := a.Y; y < a.Y+a.H; y++ {
			for x := a.X; x < a.X+a.W; x++ {
				count[y*w+x]++
			}
		}
	}
	for i, n := range count {
		if n != 1 {
			t.Fatalf("%v in %d, %d: %d parts or separators have the cell %d, %d", l, w, h, n, i%w, i/w)
		}
	}
}

func TestTreeConstants(t *testing.T) {
	if impl.MaxNodes != 31 || impl.MaxPane != 1000000 {
		t.Error("MaxNodes or MaxPane has another value")
	}
}

type treeCase struct {
	what   string
	nodes  []impl.Node
	leaves []int
}

func goodTrees() []treeCase {
	return []treeCase{
		{"one leaf", lone(1), []int{1}},
		{"the greatest pane", lone(1000000), []int{1000000}},
		{"two leaves beside each other", beside(1, lone(2), lone(1)), []int{2, 1}},
		{"the greatest First", beside(120, lone(1), lone(2)), []int{1, 2}},
		{"one leaf below another", below(1, lone(1), lone(1000000)), []int{1, 1000000}},
		{"the greatest First, down", below(120, lone(3), lone(2)), []int{3, 2}},
		{"a split in the first part", beside(7, below(1, lone(5), lone(4)), lone(6)), []int{5, 4, 6}},
		{"a split in the second part", beside(7, lone(6), below(1, lone(5), lone(4))), []int{6, 5, 4}},
		{"splits in both parts", crossTree(), []int{1, 2, 3, 4}},
		{"splits in splits", sampleTree(), []int{1, 2, 3, 4}},
		{"MaxNodes nodes, as deep as possible", chain(16, true, true, 5), []int{16, 15, 14, 13, 12, 11, 10, 9, 8, 7, 6, 5, 4, 3, 2, 1}},
		{"MaxNodes nodes, as deep as possible, in the second parts", chain(16, false, false, 120), []int{1, 2, 3, 4, 5, 6, 7, 8, 9, 10, 11, 12, 13, 14, 15, 16}},
		{"MaxNodes nodes, as flat as possible", balanced(4, 1, 1), []int{1, 2, 3, 4, 5, 6, 7, 8, 9, 10, 11, 12, 13, 14, 15, 16}},
		{"two nodes less", chain(15, false, true, 120), []int{15, 14, 13, 12, 11, 10, 9, 8, 7, 6, 5, 4, 3, 2, 1}},
	}
}

func badTrees() []treeCase {
	l := []treeCase{
		{"nil", nil, nil},
		{"no nodes", []impl.Node{}, nil},
		{"a split without its second part", beside(4, lone(1), nil), nil},
		{"a split without both parts", beside(4, nil, nil), nil},
		{"a split below without its second part", below(4, lone(1), nil), nil},
		{"an inner split without its second part", beside(4, beside(4, lone(1), nil), lone(2)), nil},
		{"an outer split without its second part", beside(4, beside(4, lone(1), lone(2)), nil), nil},
		{"an inner split without both parts", beside(4, lone(1), below(4, nil, nil)), nil},
		{"a leaf behind a leaf", slices.Concat(lone(1), lone(2)), nil},
		{"a split behind a leaf", slices.Concat(lone(1), beside(4, lone(2), lone(3))), nil},
		{"a leaf behind a split", slices.Concat(sampleTree(), lone(9)), nil},
		{"a node that is nothing behind a leaf", slices.Concat(lone(1), []impl.Node{{}}), nil},
		{"a node that is nothing behind a split", slices.Concat(sampleTree(), []impl.Node{{}}), nil},
		{"the same pane on both sides", beside(4, lone(1), lone(1)), nil},
		{"the same pane far away", beside(4, lone(3), sampleTree()), nil},
		{"one node more than MaxNodes", slices.Concat(chain(16, true, true, 5), lone(17)), nil},
		{"two nodes more than MaxNodes", chain(17, true, true, 5), nil},
		{"two nodes more than MaxNodes, in the second parts", chain(17, false, false, 5), nil},
		{"twice as many nodes and one", balanced(5, 1, 1), nil},
		{"the first pane again as the last one", slices.Concat(chain(16, true, false, 3)[:30], lone(1)), nil},
	}
	for _, n := range append(extremeInts(), -1, 0, 1000001, -120) {
		if n == 1000000 {
			continue
		}
		l = append(l,
			treeCase{fmt.Sprint("the pane ", n), lone(n), nil},
			treeCase{fmt.Sprint("the pane in the first part ", n), beside(1, lone(n), lone(1)), nil},
			treeCase{fmt.Sprint("the pane in the second part ", n), below(1, lone(1), lone(n)), nil},
		)
	}
	for _, n := range append(extremeInts(), -120, -1, 0, 121) {
		l = append(l,
			treeCase{fmt.Sprint("the First ", n), beside(n, lone(1), lone(2)), nil},
			treeCase{fmt.Sprint("the First of a split below ", n), below(n, lone(1), lone(2)), nil},
			treeCase{fmt.Sprint("the First of an inner split ", n), below(1, lone(3), beside(n, lone(1), lone(2))), nil},
		)
	}
	for _, n := range []impl.Node{{Pane: 7, Down: true}, {Pane: 7, First: 1}, {Pane: 7, First: 120}, {Pane: 7, First: -1}, {Pane: 7, Down: true, First: 1}, {Pane: -1, First: 1}, {Pane: 1000001, First: 1}} {
		what := fmt.Sprint(n)
		l = append(l,
			treeCase{what + " as a leaf", []impl.Node{n}, nil},
			treeCase{what + " as the first part", beside(1, []impl.Node{n}, lone(1)), nil},
			treeCase{what + " as the second part", beside(1, lone(1), []impl.Node{n}), nil},
			treeCase{what + " as a split", slices.Concat([]impl.Node{n}, lone(1), lone(2)), nil},
		)
	}
	return l
}

func TestTreeOkAndLeaves(t *testing.T) {
	check := func(c treeCase, want bool) {
		if impl.TreeOk(c.nodes) != want || modelTreeOk(c.nodes) != want || !slices.Equal(impl.Leaves(c.nodes), c.leaves) {
			t.Errorf("%s: TreeOk is %v, and the Leaves are %v; want %v, %v", c.what, impl.TreeOk(c.nodes), impl.Leaves(c.nodes), want, c.leaves)
		}
		checkList(t, c.nodes)
	}
	for _, c := range goodTrees() {
		check(c, true)
	}
	for _, c := range badTrees() {
		check(c, false)
	}
}

// TestTreeOkOfEachBeginning: a tree is complete with its last node, and not before.
func TestTreeOkOfEachBeginning(t *testing.T) {
	for _, c := range goodTrees() {
		for i := range len(c.nodes) + 1 {
			if got := impl.TreeOk(c.nodes[:i]); got != (i == len(c.nodes)) {
				t.Errorf("%s: TreeOk of its first %d nodes is %v", c.what, i, got)
			}
			checkList(t, c.nodes[i:])
		}
	}
}

func TestTreeOkOfAllShortLists(t *testing.T) {
	alphabet := []impl.Node{{Pane: 1}, {Pane: 2}, {Pane: 3}, {First: 1}, {Down: true, First: 120}, {}, {Pane: 4, First: 1}, {First: 121}}
	for size := range 7 {
		l := make([]impl.Node, size)
		for n := range 1 << (3 * size) {
			for i := range l {
				l[i] = alphabet[n>>(3*i)&7]
			}
			if got, want := impl.TreeOk(l), modelTreeOk(l); got != want || !slices.Equal(impl.Leaves(l), modelLeaves(l)) {
				t.Fatalf("%v: TreeOk is %v, and the Leaves are %v", l, got, impl.Leaves(l))
			}
		}
	}
}

// TestVeryLongLists: they are no trees, also if nothing but their length is wrong, and must not be too deep for a function.
func TestVeryLongLists(t *testing.T) {
	leaves := make([]impl.Node, impl.MaxPane)
	for i := range leaves {
		leaves[i].Pane = i + 1
	}
	splits := slices.Repeat([]impl.Node{{First: 1}}, impl.MaxPane-1)
	whole := slices.Concat(splits, leaves)
	for _, l := range [][]impl.Node{leaves, splits, whole} {
		_, placed := impl.Places(l, 120, 120)
		_, divided := impl.Split(l, 1, 2000, true, 120, 120)
		_, cut := impl.Cut(l, 1)
		_, swapped := impl.Swap(l, 1, 1)
		_, grown := impl.Grow(l, 1, false, 0, 120, 120)
		if impl.TreeOk(l) || impl.Leaves(l) != nil || placed || divided || cut || swapped || grown || impl.After(l, 1) != 0 || impl.Beside(l, 1, 'R', 120, 120) != 0 {
			t.Errorf("a list of %d nodes is a tree", len(l))
		}
	}
}

// TestListsThatAreNoTrees: every function that is given an area rejects them too.
func TestListsThatAreNoTrees(t *testing.T) {
	for _, c := range badTrees() {
		for _, size := range [][2]int{{120, 120}, {31, 31}, {10, 5}, {1, 1}} {
			checkArea(t, c.nodes, size[0], size[1], []int{-1, 0, 1})
			wantPlaces(t, c.nodes, size[0], size[1], nil, false)
		}
	}
}

func TestPlacesKnown(t *testing.T) {
	known := []struct {
		nodes []impl.Node
		w, h  int
		want  []impl.Rect
	}{
		{lone(7), 1, 1, []impl.Rect{{Pane: 7, W: 1, H: 1}}},
		{lone(7), 120, 120, []impl.Rect{{Pane: 7, W: 120, H: 120}}},
		{beside(1, lone(1), lone(2)), 3, 1, []impl.Rect{{Pane: 1, W: 1, H: 1}, {Pane: 2, X: 2, W: 1, H: 1}}},
		{beside(1, lone(1), lone(2)), 10, 4, []impl.Rect{{Pane: 1, W: 1, H: 4}, {Pane: 2, X: 2, W: 8, H: 4}}},
		{beside(7, lone(1), lone(2)), 10, 4, []impl.Rect{{Pane: 1, W: 7, H: 4}, {Pane: 2, X: 8, W: 2, H: 4}}},
		{beside(8, lone(1), lone(2)), 10, 4, []impl.Rect{{Pane: 1, W: 8, H: 4}, {Pane: 2, X: 9, W: 1, H: 4}}},
		{beside(9, lone(1), lone(2)), 10, 4, []impl.Rect{{Pane: 1, W: 8, H: 4}, {Pane: 2, X: 9, W: 1, H: 4}}},
		{beside(120, lone(1), lone(2)), 3, 120, []impl.Rect{{Pane: 1, W: 1, H: 120}, {Pane: 2, X: 2, W: 1, H: 120}}},
		{beside(120, lone(1), lone(2)), 120, 3, []impl.Rect{{Pane: 1, W: 118, H: 3}, {Pane: 2, X: 119, W: 1, H: 3}}},
		{below(1, lone(1), lone(2)), 1, 3, []impl.Rect{{Pane: 1, W: 1, H: 1}, {Pane: 2, Y: 2, W: 1, H: 1}}},
		{below(3, lone(1), lone(2)), 4, 10, []impl.Rect{{Pane: 1, W: 4, H: 3}, {Pane: 2, Y: 4, W: 4, H: 6}}},
		{below(8, lone(1), lone(2)), 4, 10, []impl.Rect{{Pane: 1, W: 4, H: 8}, {Pane: 2, Y: 9, W: 4, H: 1}}},
		{below(9, lone(1), lone(2)), 4, 10, []impl.Rect{{Pane: 1, W: 4, H: 8}, {Pane: 2, Y: 9, W: 4, H: 1}}},
		{sampleTree(), 12, 6, []impl.Rect{{Pane: 1, W: 4, H: 6}, {Pane: 2, X: 5, W: 3, H: 2}, {Pane: 3, X: 5, Y: 3, W: 3, H: 3}, {Pane: 4, X: 9, W: 3, H: 6}}},
		{sampleTree(), 8, 3, []impl.Rect{{Pane: 1, W: 4, H: 3}, {Pane: 2, X: 5, W: 1, H: 1}, {Pane: 3, X: 5, Y: 2, W: 1, H: 1}, {Pane: 4, X: 7, W: 1, H: 3}}},
		{crossTree(), 9, 5, []impl.Rect{{Pane: 1, W: 4, H: 2}, {Pane: 2, X: 5, W: 4, H: 2}, {Pane: 3, Y: 3, W: 4, H: 2}, {Pane: 4, X: 5, Y: 3, W: 4, H: 2}}},
		{sampleTree(), 7, 3, nil},
		{sampleTree(), 8, 2, nil},
		{sampleTree(), 2, 9, nil},
		{crossTree(), 2, 5, nil},
		{crossTree(), 9, 2, nil},
		{beside(1, lone(1), lone(2)), 2, 120, nil},
		{beside(1, lone(1), lone(2)), 1, 120, nil},
		{below(1, lone(1), lone(2)), 120, 2, nil},
		{below(1, lone(1), lone(2)), 120, 1, nil},
		{beside(2, beside(1, lone(1), lone(2)), lone(3)), 120, 9, nil},
		{beside(3, beside(1, lone(1), lone(2)), lone(3)), 5, 1, []impl.Rect{{Pane: 1, W: 1, H: 1}, {Pane: 2, X: 2, W: 1, H: 1}, {Pane: 3, X: 4, W: 1, H: 1}}},
		{beside(3, beside(1, lone(1), lone(2)), lone(3)), 4, 1, nil},
		{below(2, below(1, lone(1), lone(2)), lone(3)), 9, 120, nil},
	}
	for _, k := range known {
		wantPlaces(t, k.nodes, k.w, k.h, k.want, k.want != nil)
		checkArea(t, k.nodes, k.w, k.h, []int{-120, -2, -1, 0, 1, 2, 120})
	}
}

func TestPlacesOfAreasThatAreNone(t *testing.T) {
	for _, l := range [][]impl.Node{lone(1), beside(1, lone(1), lone(2)), below(1, lone(1), lone(2)), sampleTree(), crossTree()} {
		for _, n := range append(extremeInts(), -120, -1, 0, 121, 122, 4000) {
			for _, other := range []int{1, 3, 10, 120, 0, -1, 121, n} {
				for _, size := range [][2]int{{n, other}, {other, n}} {
					wantPlaces(t, l, size[0], size[1], nil, false)
					checkArea(t, l, size[0], size[1], []int{-1, 0, 1})
				}
			}
		}
	}
}

// TestPlacesOfEachFirst has every First of every number of columns and rows.
func TestPlacesOfEachFirst(t *testing.T) {
	for n := 1; n <= 120; n++ {
		for first := 1; first <= 120; first++ {
			f := min(first, n-2)
			var wide, high []impl.Rect
			if n >= 3 {
				wide = []impl.Rect{{Pane: 1, W: f, H: 2}, {Pane: 2, X: f + 1, W: n - f - 1, H: 2}}
				high = []impl.Rect{{Pane: 1, W: 2, H: f}, {Pane: 2, Y: f + 1, W: 2, H: n - f - 1}}
			}
			wantPlaces(t, beside(first, lone(1), lone(2)), n, 2, wide, n >= 3)
			wantPlaces(t, below(first, lone(1), lone(2)), 2, n, high, n >= 3)
		}
	}
}

// TestPlacesOfTheDeepestTrees: 16 leaves and the 15 separators between them need 31 columns or rows.
func TestPlacesOfTheDeepestTrees(t *testing.T) {
	for _, down := range []bool{false, true} {
		for _, inFirst := range []bool{false, true} {
			first := map[bool]int{false: 1, true: 120}[inFirst]
			l := chain(16, down, inFirst, first)
			for n := 29; n <= 33; n++ {
				w, h := n, 1
				if down {
					w, h = h, w
				}
				if _, ok := impl.Places(l, w, h); ok != (n >= 31) {
					t.Errorf("down: %v, in the first parts: %v: Places in %d, %d returns %v", down, inFirst, w, h, ok)
				}
				checkArea(t, l, w, h, []int{-1, 0, 1})
			}
			checkArea(t, l, 120, 120, []int{-120, -1, 0, 1, 120})
		}
	}
	for n := 5; n <= 16; n++ {
		for m := 5; m <= 16; m++ {
			checkArea(t, balanced(4, 1, 3), n, m, []int{-1, 0, 1})
		}
	}
}

func TestPlaceOf(t *testing.T) {
	l := sampleTree()
	wantPlaceOf(t, l, 12, 6, 1, impl.Rect{Pane: 1, W: 4, H: 6}, true)
	wantPlaceOf(t, l, 12, 6, 2, impl.Rect{Pane: 2, X: 5, W: 3, H: 2}, true)
	wantPlaceOf(t, l, 12, 6, 3, impl.Rect{Pane: 3, X: 5, Y: 3, W: 3, H: 3}, true)
	wantPlaceOf(t, l, 12, 6, 4, impl.Rect{Pane: 4, X: 9, W: 3, H: 6}, true)
	wantPlaceOf(t, lone(1000000), 1, 120, 1000000, impl.Rect{Pane: 1000000, W: 1, H: 120}, true)
	for _, pane := range append(extremeInts(), 0, -1, 5, 1000001) {
		wantPlaceOf(t, l, 12, 6, pane, impl.Rect{}, false)
	}
	for _, pane := range []int{0, 1, 2, 3, 4} {
		wantPlaceOf(t, l, 7, 6, pane, impl.Rect{}, false)
		wantPlaceOf(t, l, 12, 121, pane, impl.Rect{}, false)
		wantPlaceOf(t, l[:6], 12, 6, pane, impl.Rect{}, false)
		wantPlaceOf(t, nil, 12, 6, pane, impl.Rect{}, false)
	}
}

func TestSplitKnown(t *testing.T) {
	known := []struct {
		nodes       []impl.Node
		pane, fresh int
		down        bool
		w, h        int
		want        []impl.Node
	}{
		{lone(1), 1, 2, false, 3, 1, beside(1, lone(1), lone(2))},
		{lone(1), 1, 2, false, 4, 1, beside(1, lone(1), lone(2))},
		{lone(1), 1, 2, false, 5, 1, beside(2, lone(1), lone(2))},
		{lone(1), 1, 2, false, 119, 1, beside(59, lone(1), lone(2))},
		{lone(1), 1, 2, false, 120, 1, beside(59, lone(1), lone(2))},
		{lone(1), 1, 2, false, 2, 120, nil},
		{lone(1), 1, 2, false, 1, 120, nil},
		{lone(1), 1, 2, true, 1, 3, below(1, lone(1), lone(2))},
		{lone(1), 1, 2, true, 1, 10, below(4, lone(1), lone(2))},
		{lone(1), 1, 2, true, 120, 2, nil},
		{lone(1), 1, 2, true, 120, 1, nil},
		{lone(1), 1, 1000000, true, 9, 9, below(4, lone(1), lone(1000000))},
		{lone(1), 1, 1000001, true, 9, 9, nil},
		{lone(1), 1, 1, true, 9, 9, nil},
		{lone(1), 1, 0, true, 9, 9, nil},
		{lone(1), 1, -1, true, 9, 9, nil},
		{lone(1), 2, 3, true, 9, 9, nil},
		{lone(1), 0, 3, true, 9, 9, nil},
		{lone(1), 1, 2, true, 121, 9, nil},
		{lone(1), 1, 2, true, 9, 0, nil},
		{sampleTree(), 1, 5, true, 12, 6, beside(4, below(2, lone(1), lone(5)), beside(3, below(2, lone(2), lone(3)), lone(4)))},
		{sampleTree(), 2, 5, false, 12, 6, beside(4, lone(1), beside(3, below(2, beside(1, lone(2), lone(5)), lone(3)), lone(4)))},
		{sampleTree(), 3, 5, true, 12, 6, beside(4, lone(1), beside(3, below(2, lone(2), below(1, lone(3), lone(5))), lone(4)))},
		{sampleTree(), 4, 5, true, 12, 6, beside(4, lone(1), beside(3, below(2, lone(2), lone(3)), below(2, lone(4), lone(5))))},
		{sampleTree(), 2, 5, true, 12, 6, nil},
		{sampleTree(), 3, 2, true, 12, 6, nil},
		{sampleTree(), 3, 5, true, 12, 5, nil},
		{sampleTree(), 1, 5, true, 7, 6, nil},
	}
	for _, k := range known {
		got, ok := impl.Split(k.nodes, k.pane, k.fresh, k.down, k.w, k.h)
		wantNodes(t, got, ok, k.want, k.want != nil, "Split %+v", k)
		checkSplit(t, k.nodes, k.pane, k.fresh, k.down, k.w, k.h)
	}
}

// TestSplitOfEachSize: the parts of a split have the same size, or the second one is larger by one.
func TestSplitOfEachSize(t *testing.T) {
	for n := 1; n <= 120; n++ {
		for _, down := range []bool{false, true} {
			w, h := n, 5
			if down {
				w, h = h, w
			}
			l, ok := impl.Split(lone(1), 1, 2, down, w, h)
			want := splitOf(down, (n-1)/2, lone(1), lone(2))
			if n < 3 {
				want = nil
			}
			wantNodes(t, l, ok, want, n >= 3, "Split in %d, %d", w, h)
			places, ok := impl.Places(l, w, h)
			if ok != (n >= 3) {
				t.Fatalf("Places of a Split in %d, %d returns %v", w, h, ok)
			}
			if !ok {
				continue
			}
			a, b := places[0].W, places[1].W
			if down {
				a, b = places[0].H, places[1].H
			}
			if a+b+1 != n || b-a < 0 || b-a > 1 {
				t.Errorf("Split in %d, %d has parts of %d and %d", w, h, a, b)
			}
		}
	}
}

func TestSplitWithFreshPanes(t *testing.T) {
	l := sampleTree()
	for _, pane := range []int{1, 2, 3, 4, 0, 5, -1} {
		for _, fresh := range append(extremeInts(), -1, 0, 1, 2, 3, 4, 5, 6, 999999, 1000001) {
			for _, down := range []bool{false, true} {
				checkSplit(t, l, pane, fresh, down, 60, 60)
			}
		}
	}
}

// TestSplitOfFullTrees: 15 leaves leave room for two more nodes, and 16 do not.
func TestSplitOfFullTrees(t *testing.T) {
	for _, c := range goodTrees() {
		for _, pane := range c.leaves {
			checkSplit(t, c.nodes, pane, 500000, false, 120, 120)
			checkSplit(t, c.nodes, pane, 500000, true, 120, 120)
		}
	}
	for _, pane := range []int{1, 8, 15} {
		if l, ok := impl.Split(chain(15, false, false, 2), pane, 16, true, 120, 9); !ok || len(l) != impl.MaxNodes {
			t.Errorf("a 16th leaf at the pane %d is rejected", pane)
		}
	}
	for _, pane := range []int{1, 8, 16} {
		if l, ok := impl.Split(chain(16, false, false, 2), pane, 17, true, 120, 9); ok || l != nil {
			t.Errorf("a 17th leaf at the pane %d is accepted: %v", pane, l)
		}
	}
}

func TestCutKnown(t *testing.T) {
	known := []struct {
		nodes []impl.Node
		pane  int
		want  []impl.Node
	}{
		{lone(1), 1, nil},
		{lone(1), 2, nil},
		{lone(1), 0, nil},
		{nil, 1, nil},
		{beside(7, lone(1), lone(2)), 1, lone(2)},
		{beside(7, lone(1), lone(2)), 2, lone(1)},
		{beside(7, lone(1), lone(2)), 3, nil},
		{beside(7, lone(1), lone(2)), 0, nil},
		{beside(7, lone(1), lone(2)), -1, nil},
		{sampleTree(), 1, beside(3, below(2, lone(2), lone(3)), lone(4))},
		{sampleTree(), 2, beside(4, lone(1), beside(3, lone(3), lone(4)))},
		{sampleTree(), 3, beside(4, lone(1), beside(3, lone(2), lone(4)))},
		{sampleTree(), 4, beside(4, lone(1), below(2, lone(2), lone(3)))},
		{sampleTree(), 5, nil},
		{sampleTree()[:6], 1, nil},
		{crossTree(), 1, below(2, lone(2), beside(4, lone(3), lone(4)))},
		{crossTree(), 4, below(2, beside(4, lone(1), lone(2)), lone(3))},
		{below(9, beside(8, beside(7, lone(1), lone(2)), lone(3)), lone(4)), 4, beside(8, beside(7, lone(1), lone(2)), lone(3))},
	}
	for _, k := range known {
		got, ok := impl.Cut(k.nodes, k.pane)
		wantNodes(t, got, ok, k.want, k.want != nil, "Cut of %d of %v", k.pane, k.nodes)
		checkCut(t, k.nodes, k.pane)
	}
}

// TestWhatWasSplitOffCanBeCut: this gives the tree before, whatever pane was split, and in whatever direction.
func TestWhatWasSplitOffCanBeCut(t *testing.T) {
	for _, c := range goodTrees() {
		for _, pane := range c.leaves {
			for _, down := range []bool{false, true} {
				l, ok := impl.Split(c.nodes, pane, 500000, down, 120, 120)
				if !ok {
					continue
				}
				back, ok := impl.Cut(l, 500000)
				wantNodes(t, back, ok, c.nodes, true, "%s: Cut after Split", c.what)
			}
		}
	}
}

func TestSwapKnown(t *testing.T) {
	known := []struct {
		nodes []impl.Node
		a, b  int
		want  []impl.Node
	}{
		{lone(1), 1, 1, lone(1)},
		{lone(1), 1, 2, nil},
		{lone(1), 2, 1, nil},
		{lone(1), 2, 2, nil},
		{lone(1), 0, 0, nil},
		{beside(7, lone(1), lone(2)), 1, 2, beside(7, lone(2), lone(1))},
		{beside(7, lone(1), lone(2)), 2, 1, beside(7, lone(2), lone(1))},
		{beside(7, lone(1), lone(2)), 2, 2, beside(7, lone(1), lone(2))},
		{beside(7, lone(1), lone(2)), 0, 1, nil},
		{beside(7, lone(1), lone(2)), 1, 0, nil},
		{beside(7, lone(1), lone(2)), 0, 0, nil},
		{sampleTree(), 1, 3, beside(4, lone(3), beside(3, below(2, lone(2), lone(1)), lone(4)))},
		{sampleTree(), 4, 1, beside(4, lone(4), beside(3, below(2, lone(2), lone(3)), lone(1)))},
		{sampleTree(), 4, 5, nil},
		{sampleTree(), -1, 1, nil},
		{sampleTree()[:6], 1, 2, nil},
		{beside(7, lone(1), lone(1)), 1, 1, nil},
	}
	for _, k := range known {
		got, ok := impl.Swap(k.nodes, k.a, k.b)
		wantNodes(t, got, ok, k.want, k.want != nil, "Swap of %d and %d of %v", k.a, k.b, k.nodes)
		checkSwap(t, k.nodes, k.a, k.b)
	}
}

func TestGrowKnown(t *testing.T) {
	nested := beside(6, lone(1), below(3, beside(2, lone(2), lone(3)), lone(4)))
	clipped := beside(100, lone(1), lone(2))
	known := []struct {
		nodes []impl.Node
		pane  int
		down  bool
		by    int
		w, h  int
		want  []impl.Node
	}{
		{beside(4, lone(1), lone(2)), 1, false, 2, 10, 5, beside(6, lone(1), lone(2))},
		{beside(4, lone(1), lone(2)), 1, false, -2, 10, 5, beside(2, lone(1), lone(2))},
		{beside(4, lone(1), lone(2)), 2, false, 2, 10, 5, beside(2, lone(1), lone(2))},
		{beside(4, lone(1), lone(2)), 2, false, -2, 10, 5, beside(6, lone(1), lone(2))},
		{beside(4, lone(1), lone(2)), 1, false, 4, 10, 5, beside(8, lone(1), lone(2))},
		{beside(4, lone(1), lone(2)), 1, false, 5, 10, 5, beside(8, lone(1), lone(2))},
		{beside(4, lone(1), lone(2)), 1, false, 120, 10, 5, beside(8, lone(1), lone(2))},
		{beside(4, lone(1), lone(2)), 1, false, -3, 10, 5, beside(1, lone(1), lone(2))},
		{beside(4, lone(1), lone(2)), 1, false, -4, 10, 5, beside(1, lone(1), lone(2))},
		{beside(4, lone(1), lone(2)), 1, false, -120, 10, 5, beside(1, lone(1), lone(2))},
		{beside(4, lone(1), lone(2)), 2, false, 120, 10, 5, beside(1, lone(1), lone(2))},
		{beside(4, lone(1), lone(2)), 2, false, -120, 10, 5, beside(8, lone(1), lone(2))},
		{beside(4, lone(1), lone(2)), 1, false, 0, 10, 5, beside(4, lone(1), lone(2))},
		{beside(4, lone(1), lone(2)), 1, false, 121, 10, 5, nil},
		{beside(4, lone(1), lone(2)), 1, false, -121, 10, 5, nil},
		{beside(4, lone(1), lone(2)), 1, false, math.MaxInt, 10, 5, nil},
		{beside(4, lone(1), lone(2)), 1, false, math.MinInt, 10, 5, nil},
		{beside(4, lone(1), lone(2)), 1, true, 1, 10, 5, nil},
		{beside(4, lone(1), lone(2)), 3, false, 1, 10, 5, nil},
		{beside(4, lone(1), lone(2)), 0, false, 1, 10, 5, nil},
		{beside(4, lone(1), lone(2)), 1, false, 1, 2, 5, nil},
		{beside(4, lone(1), lone(2)), 1, false, 1, 10, 121, nil},
		{beside(1, lone(1), lone(2)), 1, false, 1, 3, 5, beside(1, lone(1), lone(2))},
		{below(4, lone(1), lone(2)), 1, true, 2, 5, 10, below(6, lone(1), lone(2))},
		{below(4, lone(1), lone(2)), 2, true, 2, 5, 10, below(2, lone(1), lone(2))},
		{below(4, lone(1), lone(2)), 2, false, 2, 5, 10, nil},
		{lone(1), 1, false, 0, 10, 5, nil},
		{lone(1), 1, true, 0, 10, 5, nil},
		{clipped, 1, false, 0, 10, 5, beside(8, lone(1), lone(2))},
		{clipped, 1, false, -1, 10, 5, beside(7, lone(1), lone(2))},
		{clipped, 2, false, 1, 10, 5, beside(7, lone(1), lone(2))},
		{clipped, 1, false, 1, 10, 5, beside(8, lone(1), lone(2))},
		{clipped, 1, false, 1, 120, 5, beside(101, lone(1), lone(2))},
		{clipped, 1, false, 120, 120, 5, beside(118, lone(1), lone(2))},
		{nested, 2, false, 1, 16, 9, beside(6, lone(1), below(3, beside(3, lone(2), lone(3)), lone(4)))},
		{nested, 3, false, 1, 16, 9, beside(6, lone(1), below(3, beside(1, lone(2), lone(3)), lone(4)))},
		{nested, 3, true, 2, 16, 9, beside(6, lone(1), below(5, beside(2, lone(2), lone(3)), lone(4)))},
		{nested, 4, true, 2, 16, 9, beside(6, lone(1), below(1, beside(2, lone(2), lone(3)), lone(4)))},
		{nested, 4, false, 2, 16, 9, beside(4, lone(1), below(3, beside(2, lone(2), lone(3)), lone(4)))},
		{nested, 1, false, 2, 16, 9, beside(8, lone(1), below(3, beside(2, lone(2), lone(3)), lone(4)))},
		{nested, 1, true, 2, 16, 9, nil},
		{nested, 1, false, 6, 16, 9, beside(12, lone(1), below(3, beside(2, lone(2), lone(3)), lone(4)))},
		{nested, 1, false, 7, 16, 9, nil},
		{nested, 1, false, 8, 16, 9, nil},
		{nested, 4, false, -6, 16, 9, beside(12, lone(1), below(3, beside(2, lone(2), lone(3)), lone(4)))},
		{nested, 4, false, -7, 16, 9, nil},
		{nested[:6], 1, false, 1, 16, 9, nil},
	}
	for _, k := range known {
		got, ok := impl.Grow(k.nodes, k.pane, k.down, k.by, k.w, k.h)
		wantNodes(t, got, ok, k.want, k.want != nil, "Grow %+v", k)
		checkGrow(t, k.nodes, k.pane, k.down, k.by, k.w, k.h)
	}
}

// amountsAround are all that change something in a small area, and those at the limits.
func amountsAround() []int {
	l := append(extremeInts(), -121, -120, -119, 119, 120, 121)
	for by := -14; by <= 14; by++ {
		l = append(l, by)
	}
	return l
}

func TestGrowByEachAmount(t *testing.T) {
	for _, l := range [][]impl.Node{sampleTree(), crossTree(), chain(5, false, true, 120), chain(5, true, false, 2), lone(3)} {
		for _, size := range [][2]int{{12, 6}, {9, 9}, {13, 11}, {120, 120}, {8, 3}, {7, 3}} {
			for _, pane := range panesAround(l) {
				for _, by := range amountsAround() {
					checkGrow(t, l, pane, false, by, size[0], size[1])
					checkGrow(t, l, pane, true, by, size[0], size[1])
				}
			}
		}
	}
}

// TestGrowKeepsPanesWithSpace: only one First changes, and every pane keeps at least a column and a row.
func TestGrowKeepsPanesWithSpace(t *testing.T) {
	count := 0
	for _, c := range goodTrees() {
		for _, pane := range c.leaves {
			for by := -120; by <= 120; by += 3 {
				for _, down := range []bool{false, true} {
					l, ok := impl.Grow(c.nodes, pane, down, by, 70, 60)
					if !ok {
						continue
					}
					count++
					changed := 0
					for i := range l {
						if l[i] != c.nodes[i] {
							changed++
						}
					}
					if changed > 1 || !slices.Equal(impl.Leaves(l), c.leaves) {
						t.Fatalf("%s: Grow of %d by %d changes %d nodes: %v", c.what, pane, by, changed, l)
					}
					checkCovered(t, l, 70, 60)
				}
			}
		}
	}
	if count < 1000 {
		t.Errorf("only %d calls moved a border", count)
	}
}

// TestGrowMovesTheSizeOfThePane: in a tree of one direction, the size of the pane at the border changes by the amount.
func TestGrowMovesTheSizeOfThePane(t *testing.T) {
	for _, down := range []bool{false, true} {
		l := splitOf(down, 50, lone(1), lone(2))
		for _, pane := range []int{1, 2} {
			for by := -40; by <= 40; by++ {
				grown, ok := impl.Grow(l, pane, down, by, 110, 110)
				before, _ := impl.PlaceOf(l, 110, 110, pane)
				after, fine := impl.PlaceOf(grown, 110, 110, pane)
				if !ok || !fine || after.W+after.H != before.W+before.H+by {
					t.Fatalf("down: %v: Grow of %d by %d makes %v of %v", down, pane, by, after, before)
				}
				back, ok := impl.Grow(grown, pane, down, -by, 110, 110)
				wantNodes(t, back, ok, l, true, "Grow back")
			}
		}
	}
}

func TestAfterIsCyclic(t *testing.T) {
	for _, c := range goodTrees() {
		pane := c.leaves[0]
		for i := range 2 * len(c.leaves) {
			next := impl.After(c.nodes, pane)
			if next != c.leaves[(i+1)%len(c.leaves)] {
				t.Errorf("%s: after %d comes %d", c.what, pane, next)
			}
			pane = next
		}
		for _, pane := range append(extremeInts(), 0, -1, 77, 1000001) {
			if slices.Contains(c.leaves, pane) {
				continue
			}
			if next := impl.After(c.nodes, pane); next != 0 {
				t.Errorf("%s: after %d, which is not there, comes %d", c.what, pane, next)
			}
		}
	}
	if impl.After(lone(5), 5) != 5 {
		t.Error("after the only pane comes another")
	}
	for _, c := range badTrees() {
		for _, n := range c.nodes {
			if next := impl.After(c.nodes, n.Pane); next != 0 {
				t.Errorf("%s: after %d comes %d", c.what, n.Pane, next)
			}
		}
	}
}

func TestBesideKnown(t *testing.T) {
	// The panes 2, 3 and 4 are at the right of 1, and 4 is at the right of 5 too.
	column := beside(4, below(5, lone(1), lone(5)), below(1, lone(2), below(1, lone(3), lone(4))))
	// The pane 5 has a single row, in which there is nothing but a separator at its right.
	corner := beside(4, below(2, lone(1), below(1, lone(5), lone(6))), below(3, lone(2), lone(3)))
	known := []struct {
		nodes []impl.Node
		w, h  int
		pane  int
		l     int
		r     int
		u     int
		d     int
	}{
		{lone(1), 9, 9, 1, 0, 0, 0, 0},
		{sampleTree(), 12, 6, 1, 0, 2, 0, 0},
		{sampleTree(), 12, 6, 2, 1, 4, 0, 3},
		{sampleTree(), 12, 6, 3, 1, 4, 2, 0},
		{sampleTree(), 12, 6, 4, 2, 0, 0, 0},
		{sampleTree(), 7, 6, 2, 0, 0, 0, 0},
		{crossTree(), 9, 5, 1, 0, 2, 0, 3},
		{crossTree(), 9, 5, 2, 1, 0, 0, 4},
		{crossTree(), 9, 5, 3, 0, 4, 1, 0},
		{crossTree(), 9, 5, 4, 3, 0, 2, 0},
		{crossTree(), 9, 5, 5, 0, 0, 0, 0},
		{crossTree(), 9, 5, 0, 0, 0, 0, 0},
		{crossTree()[:6], 9, 5, 1, 0, 0, 0, 0},
		{column, 9, 9, 1, 0, 2, 0, 5},
		{column, 9, 9, 5, 0, 4, 1, 0},
		{column, 9, 9, 2, 1, 0, 0, 3},
		{column, 9, 9, 3, 1, 0, 2, 4},
		{column, 9, 9, 4, 1, 0, 3, 0},
		{below(2, beside(2, lone(1), lone(2)), beside(5, lone(3), lone(4))), 9, 5, 3, 0, 4, 1, 0},
		{below(2, beside(2, lone(1), lone(2)), beside(5, lone(3), lone(4))), 9, 5, 4, 3, 0, 2, 0},
		{below(2, beside(2, lone(1), lone(2)), beside(5, lone(3), lone(4))), 9, 5, 2, 1, 0, 0, 3},
		{below(2, beside(5, lone(1), lone(2)), beside(4, lone(3), lone(4))), 9, 5, 2, 1, 0, 0, 4},
		{below(2, beside(5, lone(1), lone(2)), beside(4, lone(3), lone(4))), 9, 5, 3, 0, 4, 1, 0},
		{below(2, beside(4, lone(1), lone(2)), beside(5, lone(3), lone(4))), 9, 5, 4, 3, 0, 2, 0},
		{below(2, beside(3, lone(1), lone(2)), beside(4, lone(3), lone(4))), 9, 5, 1, 0, 2, 0, 3},
		{below(2, beside(6, lone(2), lone(1)), beside(5, lone(4), lone(3))), 9, 5, 3, 4, 0, 1, 0},
		{below(2, beside(4, lone(2), lone(1)), lone(3)), 9, 5, 3, 0, 0, 2, 0},
		{below(2, lone(3), beside(4, lone(2), lone(1))), 9, 5, 3, 0, 0, 0, 2},
		{beside(4, below(2, lone(2), lone(1)), lone(3)), 9, 5, 3, 2, 0, 0, 0},
		{beside(4, lone(3), below(2, lone(2), lone(1))), 9, 5, 3, 0, 2, 0, 0},
		{corner, 9, 9, 5, 0, 0, 1, 6},
		{corner, 9, 9, 1, 0, 2, 0, 5},
		{corner, 9, 9, 6, 0, 3, 5, 0},
		{corner, 9, 9, 2, 1, 0, 0, 3},
		{corner, 9, 9, 3, 6, 0, 2, 0},
	}
	for _, k := range known {
		for side, want := range map[int]int{'L': k.l, 'R': k.r, 'U': k.u, 'D': k.d} {
			wantBeside(t, k.nodes, k.pane, side, k.w, k.h, want)
			if model := modelBeside(k.nodes, k.pane, side, k.w, k.h); model != want {
				t.Errorf("the model of Beside returns %d, not %d", model, want)
			}
		}
	}
}

func TestBesideOfOtherSides(t *testing.T) {
	for _, side := range append(extremeInts(), 0, -1, 'l', 'r', 'u', 'd', 'X', 'L'+256, 'R'+1<<32, 'D'-256, 'U'+1<<8, -'L') {
		for pane := range 6 {
			wantBeside(t, crossTree(), pane, side, 9, 5, 0)
			wantBeside(t, sampleTree(), pane, side, 12, 6, 0)
		}
	}
}

// TestBesideLeadsBack: the pane on one side has a pane on the opposite side, though perhaps another one.
func TestBesideLeadsBack(t *testing.T) {
	opposite := map[int]int{'L': 'R', 'R': 'L', 'U': 'D', 'D': 'U'}
	for _, c := range goodTrees() {
		for _, pane := range c.leaves {
			for side, other := range opposite {
				next := impl.Beside(c.nodes, pane, side, 120, 120)
				if next != 0 && impl.Beside(c.nodes, next, other, 120, 120) == 0 {
					t.Errorf("%s: from %d to %d on the side %c, and nothing back", c.what, pane, next, side)
				}
			}
		}
	}
}

// shapes are all trees of n leaves, from pane on, with these values of First, as far as visit sees them.
func shapes(n int, pane int, firsts []int, visit func(l []impl.Node)) {
	if n == 1 {
		visit(lone(pane))
		return
	}
	for k := 1; k < n; k++ {
		shapes(k, pane, firsts, func(a []impl.Node) {
			shapes(n-k, pane+k, firsts, func(b []impl.Node) {
				for _, first := range firsts {
					visit(beside(first, a, b))
					visit(below(first, a, b))
				}
			})
		})
	}
}

func TestAllSmallTrees(t *testing.T) {
	for n := 1; n <= 3; n++ {
		shapes(n, 1, []int{1, 2, 3, 5, 120}, func(l []impl.Node) {
			checkList(t, l)
			for _, w := range []int{1, 2, 3, 4, 5, 7} {
				for _, h := range []int{1, 2, 3, 5, 6} {
					checkArea(t, l, w, h, []int{-3, -2, -1, 0, 1, 2, 3})
				}
			}
		})
	}
	count := 0
	shapes(4, 1, []int{1, 3, 4}, func(l []impl.Node) {
		checkList(t, l)
		count++
		checkArea(t, l, 3+count%8, 3+count/8%7, []int{-2, -1, 0, 1, 2})
	})
}

// randomTree splits random panes until there are n leaves. The First of a split need not fit into any area.
func randomTree(r *rand.Rand, n int) []impl.Node {
	panes := r.Perm(40)
	l := lone(panes[0] + 1)
	for _, pane := range panes[1:n] {
		leaves := modelLeaves(l)
		at := slices.Index(l, impl.Node{Pane: leaves[r.Intn(len(leaves))]})
		first := []int{1, 2, 3, 1 + r.Intn(10), 1 + r.Intn(40), 1 + r.Intn(120), 120}[r.Intn(7)]
		pair := [][]impl.Node{l[at : at+1], lone(pane + 1)}
		if r.Intn(2) == 0 {
			pair[0], pair[1] = pair[1], pair[0]
		}
		l = slices.Concat(l[:at], splitOf(r.Intn(2) == 0, first, pair[0], pair[1]), l[at+1:])
	}
	return l
}

// brokenNodes changes, removes, repeats or exchanges a few nodes, which may leave a tree.
func brokenNodes(r *rand.Rand, l []impl.Node) []impl.Node {
	l = slices.Clone(l)
	for range 1 + r.Intn(3) {
		if len(l) == 0 {
			return l
		}
		at, other := r.Intn(len(l)), r.Intn(len(l))
		switch r.Intn(7) {
		case 0:
			l[at].Pane = []int{0, -1, 1, 2, 1000000, 1000001}[r.Intn(6)]
		case 1:
			l[at].Down = !l[at].Down
		case 2:
			l[at].First = []int{0, -1, 1, 120, 121}[r.Intn(5)]
		case 3:
			l = slices.Delete(l, at, at+1)
		case 4:
			l = slices.Insert(l, at, l[other])
		case 5:
			l[at], l[other] = l[other], l[at]
		case 6:
			l = l[:at]
		}
	}
	return l
}

func TestRandomTrees(t *testing.T) {
	r := rand.New(rand.NewSource(13))
	side := func() int { return []int{1 + r.Intn(12), 1 + r.Intn(40), 1 + r.Intn(120), 120}[r.Intn(4)] }
	for range 250 {
		l := randomTree(r, 1+r.Intn(16))
		checkList(t, l)
		for range 3 {
			checkArea(t, l, side(), side(), []int{r.Intn(9) - 4, r.Intn(241) - 120})
		}
		for range 4 {
			broken := brokenNodes(r, l)
			checkList(t, broken)
			checkArea(t, broken, side(), side(), []int{r.Intn(9) - 4})
		}
	}
}

// TestRandomChanges plays calls, each on the result of the one before, as a window with panes does.
func TestRandomChanges(t *testing.T) {
	r := rand.New(rand.NewSource(14))
	for range 200 {
		w, h := 3+r.Intn(118), 3+r.Intn(118)
		l := lone(1)
		fresh := 1
		for range 80 {
			leaves := impl.Leaves(l)
			pane, other := leaves[r.Intn(len(leaves))], leaves[r.Intn(len(leaves))]
			down, by := r.Intn(2) == 0, r.Intn(21)-10
			var next, want []impl.Node
			var ok, wantOk bool
			switch r.Intn(6) {
			case 0, 1:
				fresh++
				next, ok = impl.Split(l, pane, fresh, down, w, h)
				want, wantOk = modelSplit(l, pane, fresh, down, w, h)
			case 2:
				next, ok = impl.Cut(l, pane)
				want, wantOk = modelCut(l, pane)
			case 3:
				next, ok = impl.Swap(l, pane, other)
				want, wantOk = modelSwap(l, pane, other)
			default:
				next, ok = impl.Grow(l, pane, down, by, w, h)
				want, wantOk = modelGrow(l, pane, down, by, w, h)
			}
			wantNodes(t, next, ok, want, wantOk, "a random change of %v in %d, %d", l, w, h)
			if !ok {
				continue
			}
			// Also after a Cut: the area of every part that stays is at least as large as before.
			if _, placed := impl.Places(next, w, h); !placed {
				t.Fatalf("a random change of %v in %d, %d leaves no place for a pane: %v", l, w, h, next)
			}
			checkCovered(t, next, w, h)
			l = next
		}
	}
}

// spareNodes returns the list with spare capacity behind it, and the whole memory.
func spareNodes(l []impl.Node) ([]impl.Node, []impl.Node) {
	all := append(slices.Clone(l), slices.Repeat([]impl.Node{{Pane: 77, Down: true, First: 7}}, 40)...)
	return all[:len(l):len(all)], all
}

func overwriteNodes(l []impl.Node) {
	l = l[:cap(l)]
	for i := range l {
		l[i] = impl.Node{Pane: -99, Down: true, First: -99}
	}
}

type treeResults struct {
	nodes  [][]impl.Node
	leaves []int
	places []impl.Rect
}

func (x treeResults) overwrite() {
	for _, l := range x.nodes {
		overwriteNodes(l)
	}
	overwriteInts(x.leaves)
	places := x.places[:cap(x.places)]
	for i := range places {
		places[i] = impl.Rect{Pane: -99, X: -99, W: -99}
	}
}

func equalResults(a, b treeResults) bool {
	return slices.EqualFunc(a.nodes, b.nodes, slices.Equal) && slices.Equal(a.leaves, b.leaves) && slices.Equal(a.places, b.places)
}

// resultsOf calls every function that is given a tree, also with what they reject and with what changes nothing.
func resultsOf(l []impl.Node) treeResults {
	var x treeResults
	add := func(l []impl.Node, _ bool) { x.nodes = append(x.nodes, l) }
	for pane := range 6 {
		for _, down := range []bool{false, true} {
			add(impl.Split(l, pane, 500, down, 60, 60))
			add(impl.Split(l, pane, pane, down, 60, 60))
			add(impl.Split(l, pane, 500, down, 8, 3))
			for _, by := range []int{-1, 0, 1, 120, 121} {
				add(impl.Grow(l, pane, down, by, 60, 60))
			}
		}
		add(impl.Cut(l, pane))
		for other := range 6 {
			add(impl.Swap(l, pane, other))
		}
		impl.After(l, pane)
		impl.Beside(l, pane, 'R', 60, 60)
		impl.PlaceOf(l, 60, 60, pane)
	}
	impl.TreeOk(l)
	x.leaves = impl.Leaves(l)
	x.places, _ = impl.Places(l, 60, 60)
	return x
}

func TestTreeFunctionsLeaveTheirArgumentsAlone(t *testing.T) {
	trees := [][]impl.Node{lone(1), sampleTree(), crossTree(), chain(15, true, false, 2), chain(16, false, true, 120), nil, sampleTree()[:6], beside(4, lone(1), lone(1))}
	for i, tree := range trees {
		l, all := spareNodes(tree)
		before := slices.Clone(all)
		unchanged := func(when string) {
			t.Helper()
			if !slices.Equal(all, before) {
				t.Errorf("the tree %d %s: the argument, or the spare capacity behind it, is changed", i, when)
			}
		}
		results := resultsOf(l)
		unchanged("after the calls")
		again := resultsOf(l)
		results.overwrite()
		unchanged("after the results were overwritten")
		third := resultsOf(l)
		overwriteNodes(l)
		if !equalResults(third, again) {
			t.Errorf("the tree %d: a result shares memory with another or with the argument", i)
		}
	}
}

// TestTreesOfOneArray: arguments may be parts of one list.
func TestTreesOfOneArray(t *testing.T) {
	all := sampleTree()
	before := slices.Clone(all)
	for i := range len(all) + 1 {
		for j := i; j <= len(all); j++ {
			checkList(t, all[i:j])
			checkArea(t, all[i:j], 12, 6, []int{-1, 1})
		}
	}
	if !slices.Equal(all, before) {
		t.Error("the array is changed")
	}
}
