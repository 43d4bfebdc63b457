package tests

import (
	"fmt"
	"math"
	"math/rand"
	"slices"
	"strings"
	"testing"

	"loop.example/g00661/impl"
)

func blankCell() impl.Cell { return impl.Cell{R: 32} }

// gridBy returns a grid with the cell that is given for each column and row.
func gridBy(w int, h int, cell func(x, y int) impl.Cell) impl.Grid {
	g := impl.Grid{W: w, H: h}
	for y := range h {
		for x := range w {
			g.Cells = append(g.Cells, cell(x, y))
		}
	}
	return g
}

// numberedGrid has no blanks and no two equal cells.
func numberedGrid(w int, h int) impl.Grid {
	attrs := validAttrs()
	return gridBy(w, h, func(x, y int) impl.Cell {
		n := y*w + x
		return impl.Cell{R: 161 + n, A: attrs[n%len(attrs)]}
	})
}

func blankGrid(w int, h int) impl.Grid {
	return gridBy(w, h, func(x, y int) impl.Cell { return blankCell() })
}

// textGrid has the runes of a text with a line for each row, with the default attribute.
func textGrid(rows ...string) impl.Grid {
	return gridBy(len([]rune(rows[0])), len(rows), func(x, y int) impl.Cell {
		return impl.Cell{R: int([]rune(rows[y])[x])}
	})
}

func deepGrid(g impl.Grid) impl.Grid {
	g.Cells = slices.Clone(g.Cells)
	return g
}

// equalGrids does not use what it is to test.
func equalGrids(a, b impl.Grid) bool {
	return a.W == b.W && a.H == b.H && slices.Equal(a.Cells, b.Cells)
}

func wantGrid(t *testing.T, what string, got, want impl.Grid) {
	t.Helper()
	if got.W != want.W || got.H != want.H || len(got.Cells) != len(want.Cells) {
		t.Errorf("%s: a grid of %d, %d with %d cells; want %d, %d with %d", what, got.W, got.H, len(got.Cells), want.W, want.H, len(want.Cells))
		return
	}
	for i, c := range got.Cells {
		if c != want.Cells[i] {
			t.Errorf("%s: the cell %d of %d columns is %+v; want %+v", what, i, got.W, c, want.Cells[i])
			return
		}
	}
}

func wantNoGrid(t *testing.T, what string, got impl.Grid) {
	t.Helper()
	if got.W != 0 || got.H != 0 || len(got.Cells) != 0 {
		t.Errorf("%s: a grid of %d, %d with %d cells; want the zero value", what, got.W, got.H, len(got.Cells))
	}
}

func extremeInts() []int {
	return []int{
		math.MinInt, math.MinInt + 1, math.MinInt + 3, math.MinInt / 2, -1 << 33, -1 << 32, math.MinInt32, -1000000,
		1000000, math.MaxInt32, 1 << 31, 1 << 32, 1<<32 + 1, 1 << 33, 1 << 61, 1 << 62, math.MaxInt - 3, math.MaxInt - 1, math.MaxInt,
	}
}

// edgePlaces are at and around the limits of positions and sizes.
func edgePlaces() []int {
	return []int{math.MinInt, -200000, -100001, -100000, -99999, -1, 0, 1, 99999, 100000, 100001, 200000, 1 << 32, math.MaxInt}
}

func placeOk(places ...int) bool {
	for _, n := range places {
		if n < -100000 || n > 100000 {
			return false
		}
	}
	return true
}

func invalidCells() []impl.Cell {
	var l []impl.Cell
	for _, r := range notRunes() {
		l = append(l, impl.Cell{R: r}, impl.Cell{R: r, A: impl.Attr{Fg: 3, Bold: true}})
	}
	for _, a := range invalidAttrs() {
		l = append(l, impl.Cell{R: 'x', A: a}, impl.Cell{R: 32, A: a})
	}
	return append(l, impl.Cell{}, impl.Cell{A: impl.Attr{Fg: 9}})
}

// badSizes are sides of which at least one, or the product, is too small or too large.
func badSizes() [][2]int {
	l := [][2]int{
		{0, 0}, {0, 1}, {1, 0}, {0, 120}, {120, 0}, {-1, 1}, {1, -1}, {-1, -1}, {-2, -3}, {-40, -50}, {121, 1}, {1, 121}, {121, 33}, {121, 121}, {-120, -33},
		{4000, 1}, {1, 4000}, {200, 20}, {20, 200}, {58, 69}, {69, 58}, {52, 77}, {77, 52}, {101, 40}, {40, 101}, {100, 41}, {34, 120}, {120, 34}, {120, 120}, {64, 63},
	}
	for _, n := range extremeInts() {
		for _, side := range []int{0, 1, 2, -1, n, -n, 1 << 32, math.MaxInt, math.MinInt} {
			l = append(l, [2]int{n, side}, [2]int{side, n})
		}
	}
	return l
}

// invalidGrids have a bad size, with as many cells as they say if that is possible, or a wrong number of cells, or a bad cell.
func invalidGrids() []impl.Grid {
	l := []impl.Grid{{}, {Cells: []impl.Cell{blankCell()}}}
	for _, size := range badSizes() {
		g := impl.Grid{W: size[0], H: size[1]}
		if count := g.W * g.H; 0 <= count && count <= 20000 {
			g.Cells = slices.Repeat([]impl.Cell{blankCell()}, count)
		}
		l = append(l, g)
	}
	for _, count := range []int{0, 1, 3, 5, 7, 12, 36} {
		l = append(l, impl.Grid{W: 3, H: 2, Cells: slices.Repeat([]impl.Cell{blankCell()}, count)})
	}
	l = append(l, impl.Grid{W: 1, H: 1}, impl.Grid{W: 1, H: 1, Cells: make([]impl.Cell, 1)}, impl.Grid{W: 120, H: 33, Cells: numberedGrid(120, 32).Cells})
	for i, c := range invalidCells() {
		g := numberedGrid(3, 2)
		g.Cells[i%6] = c
		l = append(l, g)
	}
	for i := range 6 {
		g := numberedGrid(3, 2)
		g.Cells[i].R = 127
		h := numberedGrid(3, 2)
		h.Cells[i].A.Bg = 9
		l = append(l, g, h)
	}
	return l
}

func TestCellOk(t *testing.T) {
	for r := -300; r < 70000; r++ {
		if impl.CellOk(impl.Cell{R: r}) != modelShows(r) {
			t.Fatalf("CellOk of the rune %d is %v", r, !modelShows(r))
		}
	}
	for _, a := range validAttrs() {
		for _, r := range []int{32, 65, 126, 160, 65535} {
			if !impl.CellOk(impl.Cell{R: r, A: a}) {
				t.Errorf("CellOk is false for the rune %d with %+v", r, a)
			}
		}
	}
	for _, c := range invalidCells() {
		if impl.CellOk(c) {
			t.Errorf("CellOk(%+v) is true", c)
		}
	}
}

func modelSize(w int, h int) bool {
	for _, side := range []int{w, h} {
		if side < 1 || side > 120 {
			return false
		}
	}
	return w*h <= 4000
}

func TestGridNewAndGridOkOfAllSizes(t *testing.T) {
	blanks := slices.Repeat([]impl.Cell{blankCell()}, 130*130)
	for w := -3; w <= 125; w++ {
		for h := -3; h <= 125; h++ {
			want := modelSize(w, h)
			g, ok := impl.GridNew(w, h)
			what := fmt.Sprintf("GridNew(%d, %d)", w, h)
			if ok != want {
				t.Fatalf("%s returns %v", what, ok)
			}
			if !want {
				wantNoGrid(t, what, g)
			} else {
				wantGrid(t, what, g, impl.Grid{W: w, H: h, Cells: blanks[:w*h]})
			}
			if ok := impl.GridOk(impl.Grid{W: w, H: h, Cells: blanks[:max(0, w*h)]}); ok != want {
				t.Fatalf("GridOk of blanks of the size %d, %d is %v", w, h, ok)
			}
		}
	}
}

func TestGridNewAtItsLimits(t *testing.T) {
	for _, size := range [][2]int{{1, 1}, {120, 1}, {1, 120}, {120, 33}, {33, 120}, {100, 40}, {40, 100}, {80, 50}, {50, 80}, {62, 64}, {111, 36}} {
		g, ok := impl.GridNew(size[0], size[1])
		if !ok || !impl.GridOk(g) {
			t.Errorf("GridNew(%d, %d) returns %v", size[0], size[1], ok)
		}
		wantGrid(t, "a new grid", g, blankGrid(size[0], size[1]))
	}
	for _, size := range badSizes() {
		g, ok := impl.GridNew(size[0], size[1])
		if ok {
			t.Errorf("GridNew(%d, %d) returns true", size[0], size[1])
		}
		wantNoGrid(t, fmt.Sprintf("GridNew(%d, %d)", size[0], size[1]), g)
	}
}

func TestGridOk(t *testing.T) {
	for _, g := range []impl.Grid{numberedGrid(1, 1), numberedGrid(120, 33), numberedGrid(33, 120), numberedGrid(40, 100), numberedGrid(120, 1), numberedGrid(1, 120)} {
		if !impl.GridOk(g) {
			t.Errorf("GridOk is false for a grid of %d, %d", g.W, g.H)
		}
		for _, i := range []int{0, len(g.Cells) / 2, len(g.Cells) - 1} {
			for _, c := range invalidCells() {
				h := deepGrid(g)
				h.Cells[i] = c
				if impl.GridOk(h) {
					t.Errorf("GridOk is true for a grid of %d, %d with %+v at %d", g.W, g.H, c, i)
				}
			}
		}
		if impl.GridOk(impl.Grid{W: g.W, H: g.H, Cells: g.Cells[1:]}) || impl.GridOk(impl.Grid{W: g.W, H: g.H, Cells: append(deepGrid(g).Cells, blankCell())}) {
			t.Errorf("GridOk is true for a grid of %d, %d with a cell too few or too many", g.W, g.H)
		}
	}
	for i, g := range invalidGrids() {
		if impl.GridOk(g) {
			t.Errorf("GridOk is true for the invalid grid %d of %d, %d with %d cells", i, g.W, g.H, len(g.Cells))
		}
	}
}

func wantCell(t *testing.T, g impl.Grid, x int, y int, want impl.Cell) {
	t.Helper()
	if got := impl.GridAt(g, x, y); got != want {
		t.Errorf("GridAt of a grid of %d, %d at %d, %d is %+v; want %+v", g.W, g.H, x, y, got, want)
	}
}

func TestGridAt(t *testing.T) {
	for _, size := range [][2]int{{1, 1}, {5, 4}, {120, 33}, {33, 120}, {1, 120}, {120, 1}} {
		g := numberedGrid(size[0], size[1])
		for y := -2; y < g.H+2; y++ {
			for x := -2; x < g.W+2; x++ {
				want := impl.Cell{}
				if 0 <= x && x < g.W && 0 <= y && y < g.H {
					want = g.Cells[y*g.W+x]
				}
				if got := impl.GridAt(g, x, y); got != want {
					t.Fatalf("GridAt of a grid of %d, %d at %d, %d is %+v; want %+v", g.W, g.H, x, y, got, want)
				}
			}
		}
		for _, n := range extremeInts() {
			for _, m := range []int{0, 1, -1, g.W - 1, g.H - 1, n, -n, -n * g.W} {
				wantCell(t, g, n, m, impl.Cell{})
				wantCell(t, g, m, n, impl.Cell{})
			}
		}
	}
}

func TestGridAtOfInvalidGrids(t *testing.T) {
	for _, g := range invalidGrids() {
		for _, at := range [][2]int{{0, 0}, {1, 0}, {0, 1}, {2, 1}, {-1, -1}, {-1, 1}} {
			wantCell(t, g, at[0], at[1], impl.Cell{})
		}
	}
}

// modelFill and the models below it ask for every cell of the result where it comes from; an empty result stands for the zero value.
func modelFill(g impl.Grid, x, y, w, h int, c impl.Cell) impl.Grid {
	if !placeOk(x, y, w, h) {
		return impl.Grid{}
	}
	return gridBy(g.W, g.H, func(cx, cy int) impl.Cell {
		if x <= cx && cx < x+w && y <= cy && cy < y+h {
			return c
		}
		return g.Cells[cy*g.W+cx]
	})
}

func modelRoll(g impl.Grid, top, bot, n int) impl.Grid {
	if top < 0 || bot < top || g.H <= bot {
		return impl.Grid{}
	}
	n = max(-1000, min(n, 1000))
	return gridBy(g.W, g.H, func(x, y int) impl.Cell {
		switch from := y + n; {
		case y < top || bot < y:
			return g.Cells[y*g.W+x]
		case top <= from && from <= bot:
			return g.Cells[from*g.W+x]
		}
		return blankCell()
	})
}

func modelShift(g impl.Grid, x, y, n int) impl.Grid {
	if x < 0 || g.W <= x || y < 0 || g.H <= y {
		return impl.Grid{}
	}
	n = max(-1000, min(n, 1000))
	return gridBy(g.W, g.H, func(cx, cy int) impl.Cell {
		switch from := cx - n; {
		case cy != y || cx < x:
			return g.Cells[cy*g.W+cx]
		case x <= from && from < g.W:
			return g.Cells[cy*g.W+from]
		}
		return blankCell()
	})
}

func modelPaste(g, h impl.Grid, x, y int) impl.Grid {
	if !placeOk(x, y) {
		return impl.Grid{}
	}
	return gridBy(g.W, g.H, func(cx, cy int) impl.Cell {
		if fx, fy := cx-x, cy-y; 0 <= fx && fx < h.W && 0 <= fy && fy < h.H {
			return h.Cells[fy*h.W+fx]
		}
		return g.Cells[cy*g.W+cx]
	})
}

func checkFill(t *testing.T, g impl.Grid, x, y, w, h int) {
	t.Helper()
	c := impl.Cell{R: 'c', A: impl.Attr{Fg: 8, Turn: true}}
	got, want := impl.GridFill(g, x, y, w, h, c), modelFill(g, x, y, w, h, c)
	if !equalGrids(got, want) {
		wantGrid(t, fmt.Sprintf("GridFill of %d, %d at %d, %d by %d, %d", g.W, g.H, x, y, w, h), got, want)
	}
}

func TestGridFillKnown(t *testing.T) {
	g := textGrid("abcd", "efgh", "ijkl")
	star := impl.Cell{R: '*'}
	cases := []struct {
		x, y, w, h int
		want       impl.Grid
	}{
		{1, 1, 2, 1, textGrid("abcd", "e**h", "ijkl")},
		{0, 0, 4, 3, textGrid("****", "****", "****")},
		{-5, -5, 100, 100, textGrid("****", "****", "****")},
		{-100000, -100000, 100000, 100000, g},
		{-99999, -99999, 100000, 100000, textGrid("*bcd", "efgh", "ijkl")},
		{3, 2, 1, 1, textGrid("abcd", "efgh", "ijk*")},
		{3, 2, 100000, 100000, textGrid("abcd", "efgh", "ijk*")},
		{3, 0, 2, 2, textGrid("abc*", "efg*", "ijkl")},
		{-1, 1, 2, 5, textGrid("abcd", "*fgh", "*jkl")},
		{2, -2, 1, 3, textGrid("ab*d", "efgh", "ijkl")},
		{4, 0, 5, 3, g},
		{0, 3, 4, 5, g},
		{-3, 0, 3, 3, g},
		{0, -3, 4, 3, g},
		{1, 1, 0, 2, g},
		{1, 1, 2, 0, g},
		{2, 1, -1, 1, g},
		{2, 1, -100000, -100000, g},
		{100000, 100000, 100000, 100000, g},
		{100000, 0, -100000, 3, g},
	}
	for _, c := range cases {
		wantGrid(t, fmt.Sprintf("%+v", c), impl.GridFill(g, c.x, c.y, c.w, c.h, star), c.want)
	}
}

func TestGridFillAroundAGrid(t *testing.T) {
	g := numberedGrid(3, 2)
	for x := -4; x <= 4; x++ {
		for y := -3; y <= 3; y++ {
			for w := -2; w <= 8; w++ {
				for h := -2; h <= 6; h++ {
					checkFill(t, g, x, y, w, h)
				}
			}
		}
	}
}

func TestGridFillAtTheLimitsOfItsArguments(t *testing.T) {
	places := edgePlaces()
	g := numberedGrid(3, 2)
	for _, x := range places {
		for _, y := range places {
			for _, w := range places {
				for _, h := range places {
					checkFill(t, g, x, y, w, h)
				}
			}
		}
	}
	// One bad argument is enough, even if the others name no cell.
	for _, n := range append(extremeInts(), -100001, 100001) {
		for _, args := range [][4]int{{n, 0, 1, 1}, {0, n, 1, 1}, {0, 0, n, 1}, {0, 0, 1, n}, {n, 0, 0, 0}, {50, 50, n, 0}, {50, 50, 0, n}, {0, n, -1, -1}} {
			wantNoGrid(t, fmt.Sprint("GridFill with ", args), impl.GridFill(g, args[0], args[1], args[2], args[3], blankCell()))
		}
	}
}

func TestGridFillOfManySizes(t *testing.T) {
	for _, size := range [][2]int{{1, 1}, {120, 33}, {33, 120}, {40, 100}, {1, 120}, {120, 1}} {
		g := numberedGrid(size[0], size[1])
		for _, args := range [][4]int{{0, 0, 120, 120}, {g.W - 1, 0, 1, g.H}, {0, g.H - 1, g.W, 1}, {g.W - 1, g.H - 1, 1, 1}, {g.W, g.H, 1, 1}, {-1, -1, 2, 2}, {-1, -1, g.W, g.H}, {1, 1, g.W, g.H}} {
			checkFill(t, g, args[0], args[1], args[2], args[3])
		}
	}
}

func TestGridFillRejectsInvalidGridsAndCells(t *testing.T) {
	g := numberedGrid(3, 2)
	for _, c := range invalidCells() {
		wantNoGrid(t, fmt.Sprintf("a fill with %+v", c), impl.GridFill(g, 0, 0, 2, 2, c))
		wantNoGrid(t, fmt.Sprintf("a fill of nothing with %+v", c), impl.GridFill(g, 50, 50, 0, 0, c))
	}
	for i, g := range invalidGrids() {
		wantNoGrid(t, fmt.Sprint("a fill of the invalid grid ", i), impl.GridFill(g, 0, 0, 1, 1, blankCell()))
		wantNoGrid(t, fmt.Sprint("a fill of all of the invalid grid ", i), impl.GridFill(g, -1, -1, 200, 200, blankCell()))
	}
}

func checkRoll(t *testing.T, g impl.Grid, top, bot, n int) {
	t.Helper()
	got, want := impl.GridRoll(g, top, bot, n), modelRoll(g, top, bot, n)
	if !equalGrids(got, want) {
		wantGrid(t, fmt.Sprintf("GridRoll of %d, %d from %d to %d by %d", g.W, g.H, top, bot, n), got, want)
	}
}

func TestGridRollKnown(t *testing.T) {
	g := textGrid("aa", "bb", "cc", "dd", "ee")
	none := textGrid("  ", "  ", "  ", "  ", "  ")
	cases := []struct {
		top, bot, n int
		want        impl.Grid
	}{
		{0, 4, 0, g},
		{0, 4, 1, textGrid("bb", "cc", "dd", "ee", "  ")},
		{0, 4, -1, textGrid("  ", "aa", "bb", "cc", "dd")},
		{0, 4, 4, textGrid("ee", "  ", "  ", "  ", "  ")},
		{0, 4, -4, textGrid("  ", "  ", "  ", "  ", "aa")},
		{0, 4, 5, none},
		{0, 4, -5, none},
		{0, 4, 6, none},
		{0, 4, math.MaxInt, none},
		{0, 4, math.MinInt, none},
		{1, 3, 1, textGrid("aa", "cc", "dd", "  ", "ee")},
		{1, 3, -2, textGrid("aa", "  ", "  ", "bb", "ee")},
		{1, 3, 3, textGrid("aa", "  ", "  ", "  ", "ee")},
		{1, 3, math.MinInt, textGrid("aa", "  ", "  ", "  ", "ee")},
		{0, 0, 1, textGrid("  ", "bb", "cc", "dd", "ee")},
		{4, 4, -1, textGrid("aa", "bb", "cc", "dd", "  ")},
		{2, 2, 0, g},
		{0, 1, 1, textGrid("bb", "  ", "cc", "dd", "ee")},
		{3, 4, -1, textGrid("aa", "bb", "cc", "  ", "dd")},
	}
	for _, c := range cases {
		wantGrid(t, fmt.Sprintf("rows %d to %d by %d", c.top, c.bot, c.n), impl.GridRoll(g, c.top, c.bot, c.n), c.want)
	}
}

// wrappingInts become small if they are multiplied by the sides of a grid.
func wrappingInts() []int {
	return append(extremeInts(), 1<<63/3+1, -(1<<63/3 + 1), 1<<59, 1<<60, -1<<60, 1<<62+1, -1<<62-1, math.MaxInt/120, math.MaxInt/120+1, math.MinInt/120-1)
}

func TestGridRollOfAllRows(t *testing.T) {
	for _, size := range [][2]int{{1, 1}, {2, 5}, {3, 4}, {16, 4}, {4, 6}} {
		g := numberedGrid(size[0], size[1])
		for top := -2; top <= g.H+1; top++ {
			for bot := -2; bot <= g.H+1; bot++ {
				for n := -g.H - 3; n <= g.H+3; n++ {
					checkRoll(t, g, top, bot, n)
				}
				for _, n := range wrappingInts() {
					checkRoll(t, g, top, bot, n)
				}
			}
		}
	}
	for _, size := range [][2]int{{120, 33}, {33, 120}, {40, 100}, {1, 120}, {120, 1}} {
		g := numberedGrid(size[0], size[1])
		for _, n := range []int{0, 1, -1, g.H - 1, 1 - g.H, g.H, -g.H, g.H + 1, -g.H - 1, 7} {
			checkRoll(t, g, 0, g.H-1, n)
			checkRoll(t, g, g.H/3, g.H/2, n)
			checkRoll(t, g, g.H-1, g.H-1, n)
		}
	}
}

func TestGridRollRejectsInvalidArguments(t *testing.T) {
	g := numberedGrid(3, 4)
	for _, rows := range [][2]int{{1, 0}, {3, 2}, {3, 0}, {-1, 0}, {-1, -1}, {-1, 3}, {0, 4}, {3, 4}, {4, 4}, {4, 3}, {5, 5}, {0, -1}} {
		for _, n := range []int{0, 1, -1, 4, 5, math.MaxInt, math.MinInt} {
			wantNoGrid(t, fmt.Sprintf("rows %d to %d by %d", rows[0], rows[1], n), impl.GridRoll(g, rows[0], rows[1], n))
		}
	}
	for _, n := range extremeInts() {
		for _, m := range []int{0, 3, n, -n} {
			wantNoGrid(t, fmt.Sprintf("rows %d to %d", n, m), impl.GridRoll(g, n, m, 1))
			wantNoGrid(t, fmt.Sprintf("rows %d to %d", m, n), impl.GridRoll(g, m, n, 1))
		}
	}
	for i, g := range invalidGrids() {
		for _, n := range []int{0, 1, -1} {
			wantNoGrid(t, fmt.Sprint("the first row of the invalid grid ", i), impl.GridRoll(g, 0, 0, n))
			wantNoGrid(t, fmt.Sprint("two rows of the invalid grid ", i), impl.GridRoll(g, 0, 1, n))
		}
	}
}

func checkShift(t *testing.T, g impl.Grid, x, y, n int) {
	t.Helper()
	got, want := impl.GridShift(g, x, y, n), modelShift(g, x, y, n)
	if !equalGrids(got, want) {
		wantGrid(t, fmt.Sprintf("GridShift of %d, %d at %d, %d by %d", g.W, g.H, x, y, n), got, want)
	}
}

func TestGridShiftKnown(t *testing.T) {
	g := textGrid("vwxyz", "abcde", "ABCDE")
	cases := []struct {
		x, n int
		want string
	}{
		{0, 0, "abcde"},
		{0, 1, " abcd"},
		{0, -1, "bcde "},
		{0, 4, "    a"},
		{0, -4, "e    "},
		{0, 5, "     "},
		{0, -5, "     "},
		{0, 6, "     "},
		{2, 1, "ab cd"},
		{2, -1, "abde "},
		{2, 2, "ab  c"},
		{2, -2, "abe  "},
		{2, 3, "ab   "},
		{2, -3, "ab   "},
		{2, 100, "ab   "},
		{2, -100, "ab   "},
		{4, 0, "abcde"},
		{4, 1, "abcd "},
		{4, -1, "abcd "},
		{1, math.MaxInt, "a    "},
		{1, math.MinInt, "a    "},
		{4, math.MinInt, "abcd "},
	}
	for _, c := range cases {
		wantGrid(t, fmt.Sprintf("column %d by %d", c.x, c.n), impl.GridShift(g, c.x, 1, c.n), textGrid("vwxyz", c.want, "ABCDE"))
	}
	wantGrid(t, "the first row", impl.GridShift(g, 1, 0, 2), textGrid("v  wx", "abcde", "ABCDE"))
	wantGrid(t, "the last row", impl.GridShift(g, 1, 2, -2), textGrid("vwxyz", "abcde", "ADE  "))
}

func TestGridShiftOfAllCells(t *testing.T) {
	for _, size := range [][2]int{{1, 1}, {5, 3}, {3, 2}, {8, 2}} {
		g := numberedGrid(size[0], size[1])
		for x := -2; x <= g.W+1; x++ {
			for y := -2; y <= g.H+1; y++ {
				for n := -g.W - 3; n <= g.W+3; n++ {
					checkShift(t, g, x, y, n)
				}
				for _, n := range wrappingInts() {
					checkShift(t, g, x, y, n)
				}
			}
		}
	}
	for _, size := range [][2]int{{120, 33}, {33, 120}, {100, 40}, {1, 120}, {120, 1}} {
		g := numberedGrid(size[0], size[1])
		for _, n := range []int{0, 1, -1, g.W - 1, 1 - g.W, g.W, -g.W, g.W + 1, -g.W - 1, 7} {
			for _, y := range []int{0, g.H / 2, g.H - 1} {
				checkShift(t, g, 0, y, n)
				checkShift(t, g, g.W/3, y, n)
				checkShift(t, g, g.W-1, y, n)
			}
		}
	}
}

func TestGridShiftRejectsInvalidArguments(t *testing.T) {
	g := numberedGrid(3, 4)
	for _, at := range [][2]int{{-1, 0}, {3, 0}, {0, -1}, {0, 4}, {2, 4}, {3, 3}, {-1, -1}, {-1, 1}, {4, 2}, {3, -1}} {
		for _, n := range []int{0, 1, -1, 3, math.MaxInt, math.MinInt} {
			wantNoGrid(t, fmt.Sprintf("column %d of row %d by %d", at[0], at[1], n), impl.GridShift(g, at[0], at[1], n))
		}
	}
	for _, n := range extremeInts() {
		for _, m := range []int{0, 2, n, -n, -n * g.W} {
			wantNoGrid(t, fmt.Sprintf("column %d of row %d", n, m), impl.GridShift(g, n, m, 1))
			wantNoGrid(t, fmt.Sprintf("column %d of row %d", m, n), impl.GridShift(g, m, n, 1))
		}
	}
	for i, g := range invalidGrids() {
		for _, n := range []int{0, 1, -1} {
			wantNoGrid(t, fmt.Sprint("the first row of the invalid grid ", i), impl.GridShift(g, 0, 0, n))
			wantNoGrid(t, fmt.Sprint("the second row of the invalid grid ", i), impl.GridShift(g, 1, 1, n))
		}
	}
}

// TestRollingBackAndForthLosesOnlyWhatLeft: P8 for rows.
func TestRollingBackAndForthLosesOnlyWhatLeft(t *testing.T) {
	for _, size := range [][2]int{{1, 1}, {3, 6}, {120, 33}, {33, 120}} {
		g := numberedGrid(size[0], size[1])
		for _, region := range [][2]int{{0, g.H - 1}, {0, 0}, {g.H / 3, g.H - 1}, {0, g.H / 2}, {g.H / 3, g.H / 2}} {
			top, bot := region[0], region[1]
			for n := 0; n <= g.H+1; n++ {
				up := impl.GridRoll(impl.GridRoll(g, top, bot, n), top, bot, -n)
				wantGrid(t, fmt.Sprintf("rows %d to %d up and down by %d", top, bot, n), up, gridBy(g.W, g.H, func(x, y int) impl.Cell {
					if top <= y && y <= bot && y < top+n {
						return blankCell()
					}
					return g.Cells[y*g.W+x]
				}))
				down := impl.GridRoll(impl.GridRoll(g, top, bot, -n), top, bot, n)
				wantGrid(t, fmt.Sprintf("rows %d to %d down and up by %d", top, bot, n), down, gridBy(g.W, g.H, func(x, y int) impl.Cell {
					if top <= y && y <= bot && y > bot-n {
						return blankCell()
					}
					return g.Cells[y*g.W+x]
				}))
			}
		}
	}
}

// TestShiftingBackAndForthLosesOnlyWhatLeft: P8 for columns.
func TestShiftingBackAndForthLosesOnlyWhatLeft(t *testing.T) {
	for _, size := range [][2]int{{1, 1}, {6, 3}, {120, 33}} {
		g := numberedGrid(size[0], size[1])
		for _, x := range []int{0, g.W / 3, g.W - 1} {
			for n := 0; n <= g.W+1; n++ {
				for _, y := range []int{0, g.H - 1} {
					right := impl.GridShift(impl.GridShift(g, x, y, n), x, y, -n)
					wantGrid(t, fmt.Sprintf("column %d right and left by %d", x, n), right, gridBy(g.W, g.H, func(cx, cy int) impl.Cell {
						if cy == y && cx >= x && cx >= g.W-n {
							return blankCell()
						}
						return g.Cells[cy*g.W+cx]
					}))
					left := impl.GridShift(impl.GridShift(g, x, y, -n), x, y, n)
					wantGrid(t, fmt.Sprintf("column %d left and right by %d", x, n), left, gridBy(g.W, g.H, func(cx, cy int) impl.Cell {
						if cy == y && cx >= x && cx < x+n {
							return blankCell()
						}
						return g.Cells[cy*g.W+cx]
					}))
				}
			}
		}
	}
}

func checkPaste(t *testing.T, g, h impl.Grid, x, y int) {
	t.Helper()
	got, want := impl.GridPaste(g, h, x, y), modelPaste(g, h, x, y)
	if !equalGrids(got, want) {
		wantGrid(t, fmt.Sprintf("GridPaste of %d, %d over %d, %d at %d, %d", h.W, h.H, g.W, g.H, x, y), got, want)
	}
}

func TestGridPasteKnown(t *testing.T) {
	g := textGrid("abcd", "efgh", "ijkl")
	h := textGrid("12", "34")
	cases := []struct {
		x, y int
		want impl.Grid
	}{
		{0, 0, textGrid("12cd", "34gh", "ijkl")},
		{1, 1, textGrid("abcd", "e12h", "i34l")},
		{2, 1, textGrid("abcd", "ef12", "ij34")},
		{3, 0, textGrid("abc1", "efg3", "ijkl")},
		{-1, 0, textGrid("2bcd", "4fgh", "ijkl")},
		{0, -1, textGrid("34cd", "efgh", "ijkl")},
		{0, 2, textGrid("abcd", "efgh", "12kl")},
		{3, 2, textGrid("abcd", "efgh", "ijk1")},
		{-1, -1, textGrid("4bcd", "efgh", "ijkl")},
		{3, -1, textGrid("abc3", "efgh", "ijkl")},
		{-1, 2, textGrid("abcd", "efgh", "2jkl")},
		{4, 0, g}, {0, 3, g}, {-2, 0, g}, {0, -2, g}, {-2, -2, g}, {4, 3, g},
		{100000, 0, g}, {0, 100000, g}, {-100000, 0, g}, {0, -100000, g}, {100000, -100000, g},
	}
	for _, c := range cases {
		wantGrid(t, fmt.Sprintf("at %d, %d", c.x, c.y), impl.GridPaste(g, h, c.x, c.y), c.want)
	}
	wantGrid(t, "a larger grid", impl.GridPaste(h, g, -1, -1), textGrid("fg", "jk"))
	wantGrid(t, "blanks are copied too", impl.GridPaste(h, textGrid(" "), 1, 0), textGrid("1 ", "34"))
}

// otherGrid has no cell in common with a numberedGrid, since its runes are of three bytes.
func otherGrid(w int, h int) impl.Grid {
	g := numberedGrid(w, h)
	for i := range g.Cells {
		g.Cells[i].R += 20000
	}
	return g
}

func TestGridPasteAroundAGrid(t *testing.T) {
	for _, size := range [][2]int{{1, 1}, {4, 3}} {
		g := numberedGrid(size[0], size[1])
		for _, other := range [][2]int{{1, 1}, {2, 2}, {4, 3}, {3, 4}, {6, 5}, {6, 1}, {1, 6}} {
			h := otherGrid(other[0], other[1])
			for x := -8; x <= 6; x++ {
				for y := -8; y <= 6; y++ {
					checkPaste(t, g, h, x, y)
				}
			}
			for _, x := range append(edgePlaces(), extremeInts()...) {
				for _, y := range append(edgePlaces(), extremeInts()...) {
					checkPaste(t, g, h, x, y)
				}
			}
		}
	}
	for _, size := range [][2]int{{120, 33}, {33, 120}, {100, 40}} {
		g, h := numberedGrid(size[0], size[1]), otherGrid(50, 80)
		for _, at := range [][2]int{{0, 0}, {-49, -79}, {-50, 0}, {0, -80}, {g.W - 1, g.H - 1}, {g.W, 0}, {0, g.H}, {7, -30}, {-20, 5}} {
			checkPaste(t, g, h, at[0], at[1])
			checkPaste(t, h, g, at[0], at[1])
		}
	}
}

// TestGridPasteOverAGridOfTheSameSize: P8 for copies.
func TestGridPasteOverAGridOfTheSameSize(t *testing.T) {
	for _, size := range [][2]int{{1, 1}, {4, 3}, {120, 33}, {33, 120}, {40, 100}, {1, 120}, {120, 1}} {
		g, h := numberedGrid(size[0], size[1]), otherGrid(size[0], size[1])
		wantGrid(t, "a grid over another", impl.GridPaste(g, h, 0, 0), h)
		wantGrid(t, "blanks over a grid", impl.GridPaste(g, blankGrid(g.W, g.H), 0, 0), blankGrid(g.W, g.H))
		wantGrid(t, "a grid over itself", impl.GridPaste(g, g, 0, 0), g)
		if !impl.SameGrid(impl.GridPaste(g, h, 0, 0), h) {
			t.Errorf("a copy of %d, %d is not the same grid", g.W, g.H)
		}
	}
}

func TestGridPasteOfAGridIntoItself(t *testing.T) {
	g := numberedGrid(5, 4)
	for x := -5; x <= 5; x++ {
		for y := -4; y <= 4; y++ {
			checkPaste(t, g, g, x, y)
		}
	}
	wantGrid(t, "the argument", g, numberedGrid(5, 4))
}

func TestGridPasteRejectsInvalidGrids(t *testing.T) {
	good := numberedGrid(3, 2)
	for i, g := range invalidGrids() {
		for _, at := range [][2]int{{0, 0}, {1, 1}, {-1, 0}, {50, 50}, {-100000, 100000}} {
			wantNoGrid(t, fmt.Sprint("over the invalid grid ", i), impl.GridPaste(g, good, at[0], at[1]))
			wantNoGrid(t, fmt.Sprint("the invalid grid ", i), impl.GridPaste(good, g, at[0], at[1]))
			wantNoGrid(t, fmt.Sprint("twice the invalid grid ", i), impl.GridPaste(g, g, at[0], at[1]))
		}
	}
	for _, n := range append(extremeInts(), -100001, 100001) {
		for _, at := range [][2]int{{n, 0}, {0, n}, {n, n}, {n, 50}, {50, n}} {
			wantNoGrid(t, fmt.Sprint("at ", at), impl.GridPaste(good, good, at[0], at[1]))
		}
	}
}

func modelText(g impl.Grid) string {
	var text strings.Builder
	for y := range g.H {
		row := ""
		for x := range g.W {
			row += modelRune(g.Cells[y*g.W+x].R)
		}
		text.WriteString(strings.TrimRight(row, " ") + "\n")
	}
	return text.String()
}

func wantGridText(t *testing.T, g impl.Grid, want string) {
	t.Helper()
	if got := impl.GridText(g); got != want {
		t.Errorf("GridText of a grid of %d, %d is %q; want %q", g.W, g.H, got, want)
	}
}

func TestGridText(t *testing.T) {
	wantGridText(t, blankGrid(4, 3), "\n\n\n")
	wantGridText(t, blankGrid(1, 1), "\n")
	wantGridText(t, blankGrid(1, 120), strings.Repeat("\n", 120))
	wantGridText(t, textGrid("x"), "x\n")
	wantGridText(t, textGrid("abc", "d  ", " e ", "  f", "   ", "g h"), "abc\nd\n e\n  f\n\ng h\n")
	wantGridText(t, textGrid("  a b   ", "        ", "~      !"), "  a b\n\n~      !\n")
	wantGridText(t, textGrid("a\u00e4\u4e2d ", "\u07ff\u0800\uffff\u00a1", "\u4e2d \u00e4 "), "a\u00e4\u4e2d\n\u07ff\u0800\uffff\u00a1\n\u4e2d \u00e4\n")
	// Only the rune 32 is left out, not other runes that show nothing.
	wantGridText(t, textGrid("a\u00a0", "\u00a0 ", "\u3000 ", "\u2003\u2003"), "a\u00a0\n\u00a0\n\u3000\n\u2003\u2003\n")
	wantGridText(t, numberedGrid(120, 33), modelText(numberedGrid(120, 33)))
}

func TestGridTextLeavesOutColoredSpacesAtTheEnd(t *testing.T) {
	for _, a := range validAttrs() {
		g := textGrid("a b ", "    ", "xyz ")
		for i := range g.Cells {
			g.Cells[i].A = a
		}
		wantGridText(t, g, "a b\n\nxyz\n")
		one := textGrid("a  b", "    ")
		one.Cells[2].A, one.Cells[6].A = a, a
		wantGridText(t, one, "a  b\n\n")
	}
}

func TestGridTextOfInvalidGrids(t *testing.T) {
	for i, g := range invalidGrids() {
		if got := impl.GridText(g); got != "" {
			t.Errorf("GridText of the invalid grid %d is %q", i, got)
		}
	}
}

func wantSame(t *testing.T, what string, a, b impl.Grid, want bool) {
	t.Helper()
	if impl.SameGrid(a, b) != want || impl.SameGrid(b, a) != want {
		t.Errorf("%s: SameGrid is %v and %v; want %v", what, impl.SameGrid(a, b), impl.SameGrid(b, a), want)
	}
}

func TestSameGrid(t *testing.T) {
	for _, size := range [][2]int{{1, 1}, {3, 2}, {120, 33}} {
		g := numberedGrid(size[0], size[1])
		wantSame(t, "a grid and itself", g, g, true)
		wantSame(t, "a grid and a copy", g, deepGrid(g), true)
		wantSame(t, "a grid and another", g, otherGrid(g.W, g.H), false)
		for i := 0; i < len(g.Cells); i += 1 + len(g.Cells)/20 {
			for k, change := range []func(c *impl.Cell){
				func(c *impl.Cell) { c.R++ },
				func(c *impl.Cell) { c.A.Fg = (c.A.Fg + 1) % 9 },
				func(c *impl.Cell) { c.A.Bg = (c.A.Bg + 1) % 9 },
				func(c *impl.Cell) { c.A.Bold = !c.A.Bold },
				func(c *impl.Cell) { c.A.Under = !c.A.Under },
				func(c *impl.Cell) { c.A.Turn = !c.A.Turn },
			} {
				h := deepGrid(g)
				change(&h.Cells[i])
				wantSame(t, fmt.Sprintf("the cell %d with the change %d", i, k), g, h, false)
			}
		}
	}
}

func TestSameGridOfOtherSizes(t *testing.T) {
	blanks := blankGrid(6, 4).Cells
	for _, size := range [][2]int{{4, 6}, {3, 8}, {8, 3}, {24, 1}, {1, 24}, {6, 5}, {5, 4}, {6, 3}, {0, 4}, {6, 0}, {-6, -4}, {6, 1<<62 + 4}} {
		wantSame(t, fmt.Sprint("the same cells with the size ", size), impl.Grid{W: 6, H: 4, Cells: blanks}, impl.Grid{W: size[0], H: size[1], Cells: blanks}, false)
	}
	wantSame(t, "a row more", blankGrid(6, 4), blankGrid(6, 5), false)
	wantSame(t, "a column more", blankGrid(6, 4), blankGrid(7, 4), false)
}

// TestSameGridOfInvalidGrids: equality asks for nothing else, and no cells are the same whether or not the slice is nil.
func TestSameGridOfInvalidGrids(t *testing.T) {
	all := invalidGrids()
	for i, g := range all {
		wantSame(t, fmt.Sprint("a copy of the invalid grid ", i), g, deepGrid(g), true)
		wantSame(t, fmt.Sprint("a cell more than the invalid grid ", i), g, impl.Grid{W: g.W, H: g.H, Cells: append(deepGrid(g).Cells, impl.Cell{})}, false)
		for _, h := range []impl.Grid{blankGrid(3, 2), numberedGrid(3, 2), all[0], all[len(all)/2]} {
			wantSame(t, fmt.Sprint("the invalid grid and another ", i), g, h, equalGrids(g, h))
		}
	}
	wantSame(t, "nil and empty", impl.Grid{}, impl.Grid{Cells: []impl.Cell{}}, true)
	wantSame(t, "nil and empty with sides", impl.Grid{W: 2, H: -1}, impl.Grid{W: 2, H: -1, Cells: numberedGrid(2, 2).Cells[:0]}, true)
	wantSame(t, "no cells and one", impl.Grid{W: 1, H: 1}, impl.Grid{W: 1, H: 1, Cells: []impl.Cell{{}}}, false)
	wantSame(t, "bad runes", impl.Grid{W: 1, H: 1, Cells: []impl.Cell{{R: -1}}}, impl.Grid{W: 1, H: 1, Cells: []impl.Cell{{R: -2}}}, false)
}

// spareGrid returns the grid with spare capacity behind its cells, and the whole memory.
func spareGrid(g impl.Grid) (impl.Grid, []impl.Cell) {
	all := append(slices.Clone(g.Cells), slices.Repeat([]impl.Cell{{R: 77, A: impl.Attr{Fg: 7}}}, 200)...)
	g.Cells = all[:len(g.Cells)]
	return g, all
}

// gridResults calls every function that is given grids, also with what they reject and with what changes nothing.
func gridResults(g, h impl.Grid) []impl.Grid {
	star := impl.Cell{R: '*', A: impl.Attr{Bold: true}}
	var l []impl.Grid
	for _, n := range []int{0, 1, -1, 2, -2, 100, -100, math.MaxInt, math.MinInt} {
		l = append(l,
			impl.GridRoll(g, 0, g.H-1, n), impl.GridRoll(g, 1, 1, n), impl.GridRoll(g, 1, g.H-1, n), impl.GridRoll(g, 1, 0, n),
			impl.GridShift(g, 0, 0, n), impl.GridShift(g, g.W-1, g.H-1, n), impl.GridShift(g, 1, 1, n), impl.GridShift(g, g.W, 0, n),
			impl.GridFill(g, n, 0, 3, 3, star), impl.GridFill(g, 0, 0, n, n, star), impl.GridFill(g, 1, 1, 100, 100, star),
			impl.GridPaste(g, h, n, 0), impl.GridPaste(g, h, 0, n), impl.GridPaste(h, g, n, -1), impl.GridPaste(g, g, n, n))
	}
	impl.GridOk(g)
	impl.GridText(g)
	impl.GridAt(g, 1, 1)
	impl.SameGrid(g, h)
	return append(l, impl.GridFill(g, 0, 0, 2, 2, impl.Cell{}), impl.GridPaste(g, impl.Grid{}, 0, 0), impl.GridPaste(impl.Grid{}, h, 0, 0))
}

func overwriteCells(cells []impl.Cell) {
	cells = cells[:cap(cells)]
	for i := range cells {
		cells[i] = impl.Cell{R: -99, A: impl.Attr{Fg: 99}}
	}
}

func TestGridFunctionsLeaveTheirArgumentsAlone(t *testing.T) {
	g, allG := spareGrid(numberedGrid(5, 4))
	h, allH := spareGrid(otherGrid(3, 6))
	beforeG, beforeH := slices.Clone(allG), slices.Clone(allH)
	unchanged := func(when string) {
		t.Helper()
		if !slices.Equal(allG, beforeG) || !slices.Equal(allH, beforeH) {
			t.Errorf("%s: the cells of an argument, or the spare capacity behind them, are changed", when)
		}
	}
	results := gridResults(g, h)
	unchanged("after the calls")
	again := gridResults(g, h)
	for _, e := range results {
		overwriteCells(e.Cells)
	}
	unchanged("after the results were overwritten")
	third := gridResults(g, h)
	overwriteCells(g.Cells)
	overwriteCells(h.Cells)
	for i := range third {
		wantGrid(t, fmt.Sprint("a result after other results and the arguments were overwritten: ", i), third[i], again[i])
	}
}

func TestNewGridsShareNothing(t *testing.T) {
	a, _ := impl.GridNew(4, 3)
	b, _ := impl.GridNew(4, 3)
	overwriteCells(a.Cells)
	c, _ := impl.GridNew(4, 3)
	wantGrid(t, "an earlier grid", b, blankGrid(4, 3))
	wantGrid(t, "a later grid", c, blankGrid(4, 3))
}

// TestGridsOfOneArray: the cells of two arguments may lie in one array, even overlap.
func TestGridsOfOneArray(t *testing.T) {
	all := numberedGrid(4, 5).Cells
	before := slices.Clone(all)
	g := impl.Grid{W: 4, H: 3, Cells: all[:12]}
	h := impl.Grid{W: 4, H: 3, Cells: all[4:16]}
	for x := -4; x <= 4; x++ {
		for y := -3; y <= 3; y++ {
			checkPaste(t, g, h, x, y)
			checkPaste(t, h, g, x, y)
		}
	}
	checkRoll(t, g, 0, 2, 1)
	checkRoll(t, g, 0, 2, -1)
	checkShift(t, g, 0, 2, 2)
	if !slices.Equal(all, before) {
		t.Error("the array is changed")
	}
}

func randomCell(r *rand.Rand) impl.Cell {
	runes := []int{32, 32, 32, 'a', 'b', 160, 228, 20013, 65535}
	c := impl.Cell{R: runes[r.Intn(len(runes))]}
	if r.Intn(3) == 0 {
		c.A = someAttrs()[r.Intn(len(someAttrs()))]
	}
	return c
}

// TestRandomGrids plays calls, each on the result of the one before, and compares them with the models.
func TestRandomGrids(t *testing.T) {
	r := rand.New(rand.NewSource(7))
	around := func(n int) int { return r.Intn(n+4) - 2 }
	for range 300 {
		w, h := 1+r.Intn(12), 1+r.Intn(9)
		g := gridBy(w, h, func(x, y int) impl.Cell { return randomCell(r) })
		for range 60 {
			x, y, n, m := around(w), around(h), around(2*w)-w, around(2*h)-h
			var got, want impl.Grid
			switch r.Intn(4) {
			case 0:
				c := randomCell(r)
				got, want = impl.GridFill(g, x, y, n, m, c), modelFill(g, x, y, n, m, c)
			case 1:
				bot := around(h)
				got, want = impl.GridRoll(g, y, bot, m), modelRoll(g, y, bot, m)
			case 2:
				got, want = impl.GridShift(g, x, y, n), modelShift(g, x, y, n)
			case 3:
				other := gridBy(1+r.Intn(12), 1+r.Intn(9), func(x, y int) impl.Cell { return randomCell(r) })
				got, want = impl.GridPaste(g, other, n, m), modelPaste(g, other, n, m)
			}
			wantGrid(t, fmt.Sprintf("a random call at %d, %d by %d, %d", x, y, n, m), got, want)
			if impl.SameGrid(got, g) != equalGrids(got, g) {
				t.Errorf("SameGrid is %v for a grid and its change", impl.SameGrid(got, g))
			}
			if got.W == 0 {
				continue
			}
			g = got
			if !impl.GridOk(g) {
				t.Fatalf("the result is not valid: %+v", g)
			}
			wantGridText(t, g, modelText(g))
		}
	}
}
