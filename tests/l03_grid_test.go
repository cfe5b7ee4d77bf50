package tests

import (
	"slices"
	"strings"
	"testing"

	"loop.example/g00523/impl"
)

// shownEdges and hiddenEdges are characters that a cell may have and numbers that it may not, near each bound.
var (
	shownEdges  = []int64{32, 33, 65, 126, 128, 129, 255, 55294, 55295, 57344, 57345, 65533, 65534, 65535}
	hiddenEdges = append([]int64{-65, -32, -1, 0, 10, 27, 30, 31, 127, 55296, 55297, 56320, 57342, 57343, 65536, 65537, 65536 + 65}, bigNumbers...)
)

// noAttrs are none, near the bounds of those that are, and far off.
var noAttrs = append([]int64{-32, -31, -2, -1, 32, 33, 63, 64}, bigNumbers...)

func cell(char, attr int64) impl.Cell {
	return impl.Cell{Char: char, Attr: attr}
}

func blank(attr int64) impl.Cell {
	return cell(32, attr)
}

// gridOfSize has cells of which no two are alike, in Back as well, and none is a blank.
func gridOfSize(rows, width, back int64) impl.Grid {
	g := impl.Grid{Rows: rows, Width: width}
	for i := range rows * width {
		g.Cells = append(g.Cells, cell(200+i, i%32))
	}
	for i := range back * width {
		g.Back = append(g.Back, cell(57344+i, (i+5)%32))
	}
	return g
}

// goodGrids are of every size, with every number of rows in Back.
func goodGrids() []impl.Grid {
	var grids []impl.Grid
	for rows := int64(1); rows <= 6; rows++ {
		for width := int64(2); width <= 12; width++ {
			for back := range int64(6) {
				grids = append(grids, gridOfSize(rows, width, back))
			}
		}
	}
	return grids
}

// someGrids are of the least and the greatest sizes and of some between, with Back empty, begun and full.
func someGrids() []impl.Grid {
	var grids []impl.Grid
	for _, rows := range []int64{1, 2, 5, 6} {
		for _, width := range []int64{2, 3, 11, 12} {
			for _, back := range []int64{0, 1, 4, 5} {
				grids = append(grids, gridOfSize(rows, width, back))
			}
		}
	}
	return grids
}

// sameGrid holds grids against each other without the program's own SameGrids.
func sameGrid(a, b impl.Grid) bool {
	return a.Rows == b.Rows && a.Width == b.Width && slices.Equal(a.Cells, b.Cells) && slices.Equal(a.Back, b.Back)
}

// onlyGridCode tells whether an answer has that code and nothing beside it.
func onlyGridCode(r impl.GridResult, code int64) bool {
	return r.Code == code && sameGrid(r.Grid, impl.Grid{})
}

// rightGrid tells whether an answer is that grid, without a code or a fault.
func rightGrid(r impl.GridResult, want impl.Grid) bool {
	return r.Code == impl.OK && sameGrid(r.Grid, want) && impl.GridFault(r.Grid) == impl.OK
}

// gridOfText has a row for each text, a letter a cell, with attribute 7; the rows ahead of a "|" are those of Back, and "." is a blank of 0.
func gridOfText(text string) impl.Grid {
	back, shown, found := strings.Cut(text, "|")
	if !found {
		back, shown = "", text
	}
	g := impl.Grid{Rows: int64(len(strings.Fields(shown))), Width: int64(len(strings.Fields(shown)[0]))}
	g.Cells, g.Back = cellsOfText(shown), cellsOfText(back)
	return g
}

func cellsOfText(text string) []impl.Cell {
	var cells []impl.Cell
	for _, c := range strings.Join(strings.Fields(text), "") {
		if c == '.' {
			cells = append(cells, blank(0))
		} else {
			cells = append(cells, cell(int64(c), 7))
		}
	}
	return cells
}

// wrongGrid is a grid with the code that it has to be told.
type wrongGrid struct {
	grid impl.Grid
	code int64
}

// spoilt is a copy of a grid with a cell that is none: in Cells, or, behind them, in Back.
func spoilt(g impl.Grid, at int, c impl.Cell) impl.Grid {
	g.Cells, g.Back = slices.Clone(g.Cells), slices.Clone(g.Back)
	if at < len(g.Cells) {
		g.Cells[at] = c
	} else {
		g.Back[at-len(g.Cells)] = c
	}
	return g
}

// wrongSizes have Rows or Width out of bounds, alone and with all that is asked behind it.
func wrongSizes() []wrongGrid {
	var wrong []wrongGrid
	add := func(g impl.Grid) { wrong = append(wrong, wrongGrid{g, impl.ErrRange}) }
	for _, n := range append([]int64{-12, -6, -2, -1, 0, 7, 8, 13}, bigNumbers...) {
		for _, g := range []impl.Grid{{}, gridOfSize(1, 2, 0), gridOfSize(6, 12, 5), spoilt(gridOfSize(6, 12, 5), 3, cell(31, 32))} {
			add(impl.Grid{Rows: n, Width: 2, Cells: g.Cells, Back: g.Back})
			add(impl.Grid{Rows: n, Width: n, Cells: g.Cells, Back: g.Back})
			if n != 7 && n != 8 {
				add(impl.Grid{Rows: 1, Width: n, Cells: g.Cells, Back: g.Back})
			}
		}
	}
	for _, width := range []int64{1, 0, 13} {
		add(impl.Grid{Rows: 6, Width: width, Cells: slices.Repeat([]impl.Cell{blank(0)}, int(6*width))})
	}
	add(impl.Grid{Rows: 7, Width: 2, Cells: slices.Repeat([]impl.Cell{blank(0)}, 14)})
	add(impl.Grid{Rows: 7, Width: 2, Cells: slices.Repeat([]impl.Cell{cell(127, 0)}, 13), Back: make([]impl.Cell, 1)})
	// What these have in all would be a small number again, if it were told ahead of their bounds.
	add(impl.Grid{Rows: 1 << 62, Width: 4})
	add(impl.Grid{Rows: 4, Width: 1 << 62})
	add(impl.Grid{Rows: 1 << 32, Width: 1 << 32})
	add(impl.Grid{Rows: -1, Width: -2, Cells: slices.Repeat([]impl.Cell{blank(0)}, 2)})
	add(impl.Grid{})
	return wrong
}

// wrongForms have lengths that do not fit, alone and with cells that are none.
func wrongForms() []wrongGrid {
	var wrong []wrongGrid
	for _, g := range someGrids() {
		w, all := int(g.Width), len(g.Cells)
		for _, n := range []int{0, 1, all - w, all - 1, all + 1, all + w, 5000} {
			for _, c := range []impl.Cell{blank(3), cell(31, 3), cell(65, 32)} {
				if n != all {
					wrong = append(wrong, wrongGrid{impl.Grid{Rows: g.Rows, Width: g.Width, Cells: slices.Repeat([]impl.Cell{c}, n), Back: g.Back}, impl.ErrForm})
				}
			}
		}
		for _, n := range []int{1, w - 1, w + 1, 2*w - 1, 4*w + 1, 5*w - 1, 5*w + 1, 6 * w, 7 * w, 5040, 5041} {
			for _, c := range []impl.Cell{blank(3), cell(127, 3), cell(65, -1)} {
				if n > 0 && (n%w != 0 || n > 5*w) {
					wrong = append(wrong, wrongGrid{impl.Grid{Rows: g.Rows, Width: g.Width, Cells: g.Cells, Back: slices.Repeat([]impl.Cell{c}, n)}, impl.ErrForm})
				}
			}
		}
		// Wrong cells are asked behind a wrong length of the other list.
		short := spoilt(g, 0, cell(31, 0))
		short.Back = append(slices.Clone(g.Back), blank(0))
		wrong = append(wrong, wrongGrid{short, impl.ErrForm})
		if len(g.Back) > 0 {
			long := spoilt(g, all, cell(31, 0))
			long.Cells = append(long.Cells, blank(0))
			wrong = append(wrong, wrongGrid{long, impl.ErrForm})
		}
	}
	return wrong
}

// wrongCells have a cell that is none, at every place.
func wrongCells() []wrongGrid {
	var wrong []wrongGrid
	for _, g := range []impl.Grid{gridOfSize(1, 2, 0), gridOfSize(1, 2, 5), gridOfSize(6, 12, 0), gridOfSize(6, 12, 1), gridOfSize(6, 12, 5), gridOfSize(3, 4, 2)} {
		for at := range len(g.Cells) + len(g.Back) {
			for _, c := range []impl.Cell{cell(31, 0), cell(127, 0), cell(65536, 0), cell(65, -1), cell(65, 32), cell(55296, 40)} {
				wrong = append(wrong, wrongGrid{spoilt(g, at, c), impl.ErrRange})
			}
		}
	}
	for _, at := range []int{0, 3, 4, 7} {
		for _, c := range hiddenEdges {
			wrong = append(wrong, wrongGrid{spoilt(gridOfSize(2, 2, 2), at, cell(c, 7)), impl.ErrRange})
		}
		for _, a := range noAttrs {
			wrong = append(wrong, wrongGrid{spoilt(gridOfSize(2, 2, 2), at, cell(65, a)), impl.ErrRange})
		}
	}
	return wrong
}

func wrongGrids() []wrongGrid {
	return slices.Concat(wrongSizes(), wrongForms(), wrongCells())
}

func TestGridConstants(t *testing.T) {
	if impl.MaxRows != 6 || impl.MaxWidth != 12 || impl.MaxBack != 5 {
		t.Fatal(impl.MaxRows, impl.MaxWidth, impl.MaxBack)
	}
}

func TestGridFault(t *testing.T) {
	for _, g := range goodGrids() {
		if code := impl.GridFault(g); code != impl.OK {
			t.Fatalf("GridFault(%v) = %d, want 0", g, code)
		}
	}
	for _, x := range wrongGrids() {
		if code := impl.GridFault(x.grid); code != x.code {
			t.Fatalf("GridFault(%v) = %d, want %d", x.grid, code, x.code)
		}
	}
}

func TestGridFaultOfCells(t *testing.T) {
	for _, at := range []int{0, 3, 4, 7} {
		for _, c := range shownEdges {
			for _, a := range []int64{0, 1, 15, 16, 30, 31} {
				if code := impl.GridFault(spoilt(gridOfSize(2, 2, 2), at, cell(c, a))); code != impl.OK {
					t.Fatalf("GridFault with a cell %d, %d at %d = %d, want 0", c, a, at, code)
				}
			}
		}
	}
	for c := int64(-10); c <= 65546; c++ {
		want := int64(impl.OK)
		if c < 32 || c == 127 || isSurrogate(c) || c > 65535 {
			want = impl.ErrRange
		}
		for _, at := range []int{1, 5} {
			if code := impl.GridFault(spoilt(gridOfSize(2, 2, 2), at, cell(c, 3))); code != want {
				t.Fatalf("GridFault with a character %d at %d = %d, want %d", c, at, code, want)
			}
		}
	}
}

// All that take a grid tell its fault, also where all else that they are given is wrong.
func TestGridFaultIsAskedFirst(t *testing.T) {
	for _, x := range wrongGrids() {
		for _, n := range []int64{0, 1, -1, 50} {
			for i, r := range []impl.GridResult{
				impl.PutCell(x.grid, 0, 0, blank(0)), impl.PutCell(x.grid, n, n, cell(n, n)),
				impl.ScrollGrid(x.grid, 0, 0, n, 0), impl.ScrollGrid(x.grid, n, n, n, n),
				impl.EraseCells(x.grid, 0, 0, 0), impl.EraseCells(x.grid, n, n, n),
				impl.ShiftCells(x.grid, 0, 0, n, 0), impl.ShiftCells(x.grid, n, n, n, n),
				impl.ResizeGrid(x.grid, 1, 2), impl.ResizeGrid(x.grid, n, n),
			} {
				if !onlyGridCode(r, x.code) {
					t.Fatalf("call %d with %d of %v = %v, want %d", i, n, x.grid, r, x.code)
				}
			}
		}
	}
}

func TestNewGrid(t *testing.T) {
	sizes := append([]int64{}, bigNumbers...)
	for n := int64(-3); n <= 16; n++ {
		sizes = append(sizes, n)
	}
	for _, rows := range sizes {
		for _, width := range sizes {
			r := impl.NewGrid(rows, width)
			if rows < 1 || rows > 6 || width < 2 || width > 12 {
				if !onlyGridCode(r, impl.ErrRange) {
					t.Errorf("NewGrid(%d, %d) = %v, want ErrRange", rows, width, r)
				}
				continue
			}
			want := impl.Grid{Rows: rows, Width: width, Cells: slices.Repeat([]impl.Cell{{Char: 32}}, int(rows*width))}
			if !rightGrid(r, want) {
				t.Errorf("NewGrid(%d, %d) = %v", rows, width, r)
			}
		}
	}
}

// A cell at every place of every size is there, and all others stay.
func TestPutCellEverywhere(t *testing.T) {
	for _, g := range goodGrids() {
		for at := range g.Rows * g.Width {
			c := cell(65+at%7, 31-at%32)
			r := impl.PutCell(g, at/g.Width, at%g.Width, c)
			if !rightGrid(r, spoilt(g, int(at), c)) {
				t.Fatalf("PutCell(%v, %d, %d) = %v", g, at/g.Width, at%g.Width, r)
			}
		}
	}
}

func TestPutCellEdges(t *testing.T) {
	for _, g := range someGrids() {
		for _, at := range []int64{0, g.Width - 1, (g.Rows - 1) * g.Width, g.Rows*g.Width - 1} {
			y, x := at/g.Width, at%g.Width
			for _, c := range shownEdges {
				for _, a := range []int64{0, 1, 30, 31} {
					if r := impl.PutCell(g, y, x, cell(c, a)); !rightGrid(r, spoilt(g, int(at), cell(c, a))) {
						t.Fatalf("PutCell(%v, %d, %d, %d, %d) = %v", g, y, x, c, a, r)
					}
				}
				for _, a := range noAttrs {
					if r := impl.PutCell(g, y, x, cell(c, a)); !onlyGridCode(r, impl.ErrRange) {
						t.Fatalf("PutCell of %d, %d = %v, want ErrRange", c, a, r)
					}
				}
			}
			for _, c := range hiddenEdges {
				if r := impl.PutCell(g, y, x, cell(c, 7)); !onlyGridCode(r, impl.ErrRange) {
					t.Fatalf("PutCell of %d = %v, want ErrRange", c, r)
				}
			}
		}
	}
}

// placesOutside are just outside of a grid, and far off; the row or the column alone may be right.
func placesOutside(g impl.Grid) [][2]int64 {
	places := [][2]int64{{-1, -1}, {-1, 0}, {0, -1}, {-1, g.Width}, {-1, g.Width - 1}, {1, -g.Width}, {g.Rows, 0}, {g.Rows, -1}, {g.Rows, g.Width - 1}, {g.Rows, -g.Width}, {0, g.Width}, {g.Rows - 1, g.Width}, {g.Rows - 1, -1}, {g.Rows, g.Width}}
	for _, n := range bigNumbers {
		places = append(places, [2]int64{n, 0}, [2]int64{0, n}, [2]int64{n, n})
	}
	return places
}

func TestPutCellOutside(t *testing.T) {
	for _, g := range goodGrids() {
		for _, p := range placesOutside(g) {
			if r := impl.PutCell(g, p[0], p[1], cell(65, 7)); !onlyGridCode(r, impl.ErrRange) {
				t.Fatalf("PutCell(%v, %v) = %v, want ErrRange", g, p, r)
			}
		}
	}
}

// scrolled is a grid row by row, each told by where it comes from.
func scrolled(g impl.Grid, top, bottom, n, attr int64) impl.Grid {
	out := impl.Grid{Rows: g.Rows, Width: g.Width}
	for y := range g.Rows {
		from := y
		if y >= top && y <= bottom {
			from = y + n
			if from < top || from > bottom {
				out.Cells = append(out.Cells, slices.Repeat([]impl.Cell{blank(attr)}, int(g.Width))...)
				continue
			}
		}
		out.Cells = append(out.Cells, g.Cells[from*g.Width:(from+1)*g.Width]...)
	}
	var back [][]impl.Cell
	for row := range slices.Chunk(g.Back, int(g.Width)) {
		back = append(back, row)
	}
	for y := int64(0); top == 0 && y <= bottom && y-n < 0; y++ {
		back = append(back, g.Cells[y*g.Width:(y+1)*g.Width])
	}
	for len(back) > 5 {
		back = back[1:]
	}
	out.Back = slices.Concat(back...)
	return out
}

func TestScrollGridEverywhere(t *testing.T) {
	for _, g := range goodGrids() {
		for top := range g.Rows {
			for bottom := top; bottom < g.Rows; bottom++ {
				for n := int64(-9); n <= 9; n++ {
					attr := (n + 9 + 3*top + bottom) % 32
					r, want := impl.ScrollGrid(g, top, bottom, n, attr), scrolled(g, top, bottom, n, attr)
					if !rightGrid(r, want) {
						t.Fatalf("ScrollGrid(%v, %d, %d, %d, %d) = %v, want %v", g, top, bottom, n, attr, r, want)
					}
				}
			}
		}
	}
}

func TestScrollGridByHand(t *testing.T) {
	for _, x := range []struct {
		grid           string
		top, bottom, n int64
		want           string
	}{
		{"ab cd ef", 0, 2, 0, "ab cd ef"},
		{"zz | ab cd ef", 0, 2, 0, "zz | ab cd ef"},
		{"ab cd ef", 0, 2, 1, "ab | cd ef .."},
		{"ab cd ef", 0, 2, 2, "ab cd | ef .. .."},
		{"ab cd ef", 0, 2, 3, "ab cd ef | .. .. .."},
		// No more rows leave than there are.
		{"ab cd ef", 0, 2, 4, "ab cd ef | .. .. .."},
		{"ab cd ef", 0, 2, 9, "ab cd ef | .. .. .."},
		{"ab", 0, 0, 1, "ab | .."},
		{"ab", 0, 0, 9, "ab | .."},
		{"ab", 0, 0, -1, ".."},
		{"ab", 0, 0, -9, ".."},
		// Downwards nothing is kept, at either end.
		{"ab cd ef", 0, 2, -1, ".. ab cd"},
		{"ab cd ef", 0, 2, -2, ".. .. ab"},
		{"ab cd ef", 0, 2, -3, ".. .. .."},
		{"zz | ab cd ef", 0, 2, -9, "zz | .. .. .."},
		// A part at the top goes to Back as well, all others stay.
		{"ab cd ef", 0, 1, 1, "ab | cd .. ef"},
		{"ab cd ef", 0, 1, 3, "ab cd | .. .. ef"},
		{"ab cd ef", 0, 1, -1, ".. ab ef"},
		{"ab cd ef", 0, 0, 1, "ab | .. cd ef"},
		{"ab cd ef", 0, 0, 2, "ab | .. cd ef"},
		// What does not leave at row 0 is gone.
		{"ab cd ef", 1, 2, 1, "ab ef .."},
		{"ab cd ef", 1, 2, 9, "ab .. .."},
		{"zz | ab cd ef", 1, 2, 2, "zz | ab .. .."},
		{"ab cd ef", 1, 2, -1, "ab .. cd"},
		{"ab cd ef gh", 1, 2, 1, "ab ef .. gh"},
		{"ab cd ef gh", 1, 2, -1, "ab .. cd gh"},
		{"ab cd ef", 2, 2, 1, "ab cd .."},
		// Back holds five rows, the eldest first; the eldest ones make room.
		{"zz | ab cd ef", 0, 2, 1, "zz ab | cd ef .."},
		{"va wa xa ya | ab cd", 0, 1, 1, "va wa xa ya ab | cd .."},
		{"va wa xa ya | ab cd", 0, 1, 2, "wa xa ya ab cd | .. .."},
		{"va wa xa ya za | ab cd", 0, 1, 1, "wa xa ya za ab | cd .."},
		{"va wa xa ya za | ab cd", 0, 1, 9, "xa ya za ab cd | .. .."},
		{"va wa xa ya za | ab cd", 0, 1, -1, "va wa xa ya za | .. ab"},
		{"va wa xa ya za | ab cd", 1, 1, 1, "va wa xa ya za | ab .."},
		{"ab cd ef gh ij kl", 0, 5, 5, "ab cd ef gh ij | kl .. .. .. .. .."},
		{"ab cd ef gh ij kl", 0, 5, 6, "cd ef gh ij kl | .. .. .. .. .. .."},
		{"ab cd ef gh ij kl", 0, 5, 9, "cd ef gh ij kl | .. .. .. .. .. .."},
		{"za | ab cd ef gh ij kl", 0, 5, 5, "ab cd ef gh ij | kl .. .. .. .. .."},
		{"ya za | ab cd ef gh ij kl", 0, 5, 4, "za ab cd ef gh | ij kl .. .. .. .."},
	} {
		r := impl.ScrollGrid(gridOfText(x.grid), x.top, x.bottom, x.n, 0)
		if !rightGrid(r, gridOfText(x.want)) {
			t.Errorf("ScrollGrid of %s from %d to %d by %d = %v, want %s", x.grid, x.top, x.bottom, x.n, r, x.want)
		}
	}
}

// What scrolls row after row is kept in the order in which it left, and at last the five that left last.
func TestScrollGridOneByOne(t *testing.T) {
	g := gridOfText("ab cd ef gh ij kl")
	at := gridOfText("ab cd ef gh ij kl")
	for i := range int64(6) {
		at = impl.ScrollGrid(at, 0, 5, 1, 9).Grid
		want := g.Cells[2*max(0, i-4) : 2*i+2]
		if !slices.Equal(at.Back, want) || impl.GridFault(at) != impl.OK {
			t.Fatalf("behind %d rows Back is %v, want %v", i+1, at.Back, want)
		}
	}
	if !slices.Equal(at.Cells, slices.Repeat([]impl.Cell{blank(9)}, 12)) {
		t.Errorf("what is shown: %v", at.Cells)
	}
	// Blanks that leave are kept like other rows.
	at = impl.ScrollGrid(at, 0, 0, 1, 0).Grid
	if !slices.Equal(at.Back, append(slices.Clone(g.Cells[4:]), blank(9), blank(9))) {
		t.Errorf("behind a row of blanks Back is %v", at.Back)
	}
}

func TestScrollGridWrong(t *testing.T) {
	for _, g := range someGrids() {
		for top := int64(-2); top <= 7; top++ {
			for bottom := int64(-2); bottom <= 7; bottom++ {
				if top >= 0 && top <= bottom && bottom < g.Rows {
					continue
				}
				for _, n := range []int64{-1, 0, 1} {
					if r := impl.ScrollGrid(g, top, bottom, n, 0); !onlyGridCode(r, impl.ErrRange) {
						t.Fatalf("ScrollGrid(%v, %d, %d, %d) = %v, want ErrRange", g, top, bottom, n, r)
					}
				}
			}
		}
		for _, n := range append([]int64{-20, -11, -10, 10, 11, 20}, bigNumbers...) {
			if r := impl.ScrollGrid(g, 0, g.Rows-1, n, 0); !onlyGridCode(r, impl.ErrRange) {
				t.Fatalf("ScrollGrid(%v) by %d = %v, want ErrRange", g, n, r)
			}
		}
		for _, n := range bigNumbers {
			for _, r := range []impl.GridResult{impl.ScrollGrid(g, n, 0, 1, 0), impl.ScrollGrid(g, 0, n, 1, 0), impl.ScrollGrid(g, n, n, 1, 0), impl.ScrollGrid(g, n, n, n, n)} {
				if !onlyGridCode(r, impl.ErrRange) {
					t.Fatalf("ScrollGrid(%v) with %d = %v, want ErrRange", g, n, r)
				}
			}
		}
	}
}

// wantAttr asks for blanks of each attribute, and for ErrRange at what is none, also where no blank would come of it.
func wantAttr(t *testing.T, name string, none bool, ask func(attr int64) impl.GridResult, want func(attr int64) impl.Grid) {
	t.Helper()
	for attr := range int64(32) {
		if r := ask(attr); !rightGrid(r, want(attr)) {
			t.Fatalf("%s with %d = %v, want %v", name, attr, r, want(attr))
		}
		if blanks := slices.Contains(want(attr).Cells, blank(attr)); blanks == none {
			t.Fatalf("%s with %d: blanks %v", name, attr, blanks)
		}
	}
	for _, attr := range noAttrs {
		if r := ask(attr); !onlyGridCode(r, impl.ErrRange) {
			t.Fatalf("%s with %d = %v, want ErrRange", name, attr, r)
		}
	}
}

func TestGridAttrs(t *testing.T) {
	for _, g := range []impl.Grid{gridOfSize(1, 2, 0), gridOfSize(3, 4, 2), gridOfSize(6, 12, 5)} {
		for _, n := range []int64{-9, -1, 0, 1, 9} {
			wantAttr(t, "ScrollGrid", n == 0,
				func(attr int64) impl.GridResult { return impl.ScrollGrid(g, 0, g.Rows-1, n, attr) },
				func(attr int64) impl.Grid { return scrolled(g, 0, g.Rows-1, n, attr) })
		}
		for _, to := range []int64{0, 1, 2} {
			wantAttr(t, "EraseCells", to == 0,
				func(attr int64) impl.GridResult { return impl.EraseCells(g, 0, to, attr) },
				func(attr int64) impl.Grid { return erased(g, 0, to, attr) })
		}
		for _, n := range []int64{-12, -1, 0, 1, 12} {
			wantAttr(t, "ShiftCells", n == 0,
				func(attr int64) impl.GridResult { return impl.ShiftCells(g, 0, 1, n, attr) },
				func(attr int64) impl.Grid { return shifted(g, 0, 1, n, attr) })
		}
	}
}

// erased is a grid cell by cell, each told by its place.
func erased(g impl.Grid, from, to, attr int64) impl.Grid {
	out := impl.Grid{Rows: g.Rows, Width: g.Width, Back: g.Back}
	for i, c := range g.Cells {
		if int64(i) >= from && int64(i) < to {
			c = blank(attr)
		}
		out.Cells = append(out.Cells, c)
	}
	return out
}

func TestEraseCellsEverywhere(t *testing.T) {
	for _, g := range someGrids() {
		all := g.Rows * g.Width
		for from := int64(-2); from <= all+2; from++ {
			for to := int64(-2); to <= all+2; to++ {
				r := impl.EraseCells(g, from, to, 11)
				if from < 0 || to < from || to > all {
					if !onlyGridCode(r, impl.ErrRange) {
						t.Fatalf("EraseCells(%v, %d, %d) = %v, want ErrRange", g, from, to, r)
					}
					continue
				}
				if !rightGrid(r, erased(g, from, to, 11)) {
					t.Fatalf("EraseCells(%v, %d, %d) = %v", g, from, to, r)
				}
			}
		}
	}
}

func TestEraseCellsByHand(t *testing.T) {
	for _, x := range []struct {
		from, to int64
		want     string
	}{
		{0, 0, "zzz | abc def"}, {3, 3, "zzz | abc def"}, {6, 6, "zzz | abc def"},
		{0, 1, "zzz | .bc def"}, {0, 3, "zzz | ... def"}, {0, 6, "zzz | ... ..."},
		{5, 6, "zzz | abc de."}, {2, 4, "zzz | ab. .ef"}, {3, 6, "zzz | abc ..."}, {1, 2, "zzz | a.c def"},
	} {
		if r := impl.EraseCells(gridOfText("zzz | abc def"), x.from, x.to, 0); !rightGrid(r, gridOfText(x.want)) {
			t.Errorf("EraseCells from %d to %d = %v, want %s", x.from, x.to, r, x.want)
		}
	}
	for _, g := range goodGrids() {
		all := g.Rows * g.Width
		for _, n := range append([]int64{-1, all + 1, all + int64(len(g.Back)) + 1}, bigNumbers...) {
			for _, r := range []impl.GridResult{impl.EraseCells(g, n, all, 0), impl.EraseCells(g, 0, n, 0), impl.EraseCells(g, n, n, 0), impl.EraseCells(g, all, 0, 0), impl.EraseCells(g, 1, 0, 0)} {
				if !onlyGridCode(r, impl.ErrRange) {
					t.Fatalf("EraseCells(%v) with %d = %v, want ErrRange", g, n, r)
				}
			}
		}
	}
}

// shifted is a grid with that row cell by cell, each told by where it comes from.
func shifted(g impl.Grid, y, x, n, attr int64) impl.Grid {
	out := impl.Grid{Rows: g.Rows, Width: g.Width, Cells: slices.Clone(g.Cells), Back: g.Back}
	for at := x; at < g.Width; at++ {
		if from := at - n; from >= x && from < g.Width {
			out.Cells[y*g.Width+at] = g.Cells[y*g.Width+from]
		} else {
			out.Cells[y*g.Width+at] = blank(attr)
		}
	}
	return out
}

func TestShiftCellsEverywhere(t *testing.T) {
	for _, g := range someGrids() {
		for y := range g.Rows {
			for x := range g.Width {
				for n := int64(-12); n <= 12; n++ {
					attr := (n + 12 + x + y) % 32
					r, want := impl.ShiftCells(g, y, x, n, attr), shifted(g, y, x, n, attr)
					if !rightGrid(r, want) {
						t.Fatalf("ShiftCells(%v, %d, %d, %d, %d) = %v, want %v", g, y, x, n, attr, r, want)
					}
				}
				for _, n := range append([]int64{-24, -14, -13, 13, 14, 24}, bigNumbers...) {
					if r := impl.ShiftCells(g, y, x, n, 0); !onlyGridCode(r, impl.ErrRange) {
						t.Fatalf("ShiftCells(%v, %d, %d, %d) = %v, want ErrRange", g, y, x, n, r)
					}
				}
			}
		}
	}
}

func TestShiftCellsByHand(t *testing.T) {
	for _, x := range []struct {
		y, x, n int64
		want    string
	}{
		{0, 0, 0, "zzzz | abcd efgh"}, {1, 3, 0, "zzzz | abcd efgh"},
		{0, 0, 1, "zzzz | .abc efgh"}, {0, 0, 3, "zzzz | ...a efgh"}, {0, 0, 4, "zzzz | .... efgh"}, {0, 0, 12, "zzzz | .... efgh"},
		{0, 0, -1, "zzzz | bcd. efgh"}, {0, 0, -3, "zzzz | d... efgh"}, {0, 0, -4, "zzzz | .... efgh"}, {0, 0, -12, "zzzz | .... efgh"},
		{0, 1, 1, "zzzz | a.bc efgh"}, {0, 1, -1, "zzzz | acd. efgh"}, {0, 2, 1, "zzzz | ab.c efgh"}, {0, 2, -1, "zzzz | abd. efgh"},
		{0, 3, 1, "zzzz | abc. efgh"}, {0, 3, -1, "zzzz | abc. efgh"}, {0, 3, -12, "zzzz | abc. efgh"}, {0, 3, 12, "zzzz | abc. efgh"},
		{1, 0, 1, "zzzz | abcd .efg"}, {1, 0, -1, "zzzz | abcd fgh."}, {1, 3, 1, "zzzz | abcd efg."}, {1, 1, -2, "zzzz | abcd eh.."},
	} {
		if r := impl.ShiftCells(gridOfText("zzzz | abcd efgh"), x.y, x.x, x.n, 0); !rightGrid(r, gridOfText(x.want)) {
			t.Errorf("ShiftCells in %d from %d by %d = %v, want %s", x.y, x.x, x.n, r, x.want)
		}
	}
}

func TestShiftCellsOutside(t *testing.T) {
	for _, g := range goodGrids() {
		for _, p := range placesOutside(g) {
			for _, n := range []int64{-1, 0, 1} {
				if r := impl.ShiftCells(g, p[0], p[1], n, 0); !onlyGridCode(r, impl.ErrRange) {
					t.Fatalf("ShiftCells(%v, %v, %d) = %v, want ErrRange", g, p, n, r)
				}
			}
		}
	}
}

// resizedCells tells each place by the one that it was, of as many rows as are wanted.
func resizedCells(cells []impl.Cell, was, rows, width int64) []impl.Cell {
	var out []impl.Cell
	for at := range rows * width {
		y, x := at/width, at%width
		if from := y*was + x; x < was && from < int64(len(cells)) {
			out = append(out, cells[from])
		} else {
			out = append(out, blank(0))
		}
	}
	return out
}

func TestResizeGridEverywhere(t *testing.T) {
	for _, g := range goodGrids() {
		for rows := int64(1); rows <= 6; rows++ {
			for width := int64(2); width <= 12; width++ {
				want := impl.Grid{Rows: rows, Width: width, Cells: resizedCells(g.Cells, g.Width, rows, width), Back: resizedCells(g.Back, g.Width, int64(len(g.Back))/g.Width, width)}
				r := impl.ResizeGrid(g, rows, width)
				if !rightGrid(r, want) {
					t.Fatalf("ResizeGrid(%v, %d, %d) = %v, want %v", g, rows, width, r, want)
				}
				if rows == g.Rows && width == g.Width && (!sameGrid(r.Grid, g) || !impl.SameGrids(r.Grid, g)) {
					t.Fatalf("ResizeGrid to the same size turns %v to %v", g, r)
				}
			}
		}
	}
}

func TestResizeGridByHand(t *testing.T) {
	for _, x := range []struct {
		rows, width int64
		want        string
	}{
		{3, 3, "wxy zzz | abc def ghi"},
		{3, 2, "wx zz | ab de gh"},
		{3, 5, "wxy.. zzz.. | abc.. def.. ghi.."},
		{1, 3, "wxy zzz | abc"},
		{4, 3, "wxy zzz | abc def ghi ..."},
		{6, 4, "wxy. zzz. | abc. def. ghi. .... .... ...."},
		{2, 2, "wx zz | ab de"},
		{2, 4, "wxy. zzz. | abc. def."},
		{5, 2, "wx zz | ab de gh .. .."},
	} {
		if r := impl.ResizeGrid(gridOfText("wxy zzz | abc def ghi"), x.rows, x.width); !rightGrid(r, gridOfText(x.want)) {
			t.Errorf("ResizeGrid to %d, %d = %v, want %s", x.rows, x.width, r, x.want)
		}
	}
}

func TestResizeGridWrong(t *testing.T) {
	for _, g := range someGrids() {
		for rows := int64(-2); rows <= 14; rows++ {
			for width := int64(-2); width <= 14; width++ {
				if r := impl.ResizeGrid(g, rows, width); (rows < 1 || rows > 6 || width < 2 || width > 12) && !onlyGridCode(r, impl.ErrRange) {
					t.Fatalf("ResizeGrid(%v, %d, %d) = %v, want ErrRange", g, rows, width, r)
				}
			}
		}
		for _, n := range bigNumbers {
			for _, r := range []impl.GridResult{impl.ResizeGrid(g, n, 2), impl.ResizeGrid(g, 1, n), impl.ResizeGrid(g, n, n)} {
				if !onlyGridCode(r, impl.ErrRange) {
					t.Fatalf("ResizeGrid(%v) with %d = %v, want ErrRange", g, n, r)
				}
			}
		}
	}
}

func TestSameGrids(t *testing.T) {
	grids := goodGrids()
	for i, a := range grids {
		for j, b := range grids {
			if impl.SameGrids(a, b) != (i == j) {
				t.Fatalf("SameGrids(%v, %v) = %v", a, b, i != j)
			}
		}
		for at := range len(a.Cells) + len(a.Back) {
			was := cellAt(a, at)
			for _, c := range []impl.Cell{cell(65, was.Attr), cell(was.Char, was.Attr^1)} {
				if b := spoilt(a, at, c); impl.SameGrids(a, b) || impl.SameGrids(b, a) {
					t.Fatalf("SameGrids(%v, %v), but they differ at %d", a, b, at)
				}
			}
		}
	}
}

// cellAt is a cell by its place, those of Back behind the others.
func cellAt(g impl.Grid, at int) impl.Cell {
	return slices.Concat(g.Cells, g.Back)[at]
}

// Grids with a fault are the same as well, where all is the same, and others where one part alone is another one.
func TestSameGridsWithFaults(t *testing.T) {
	for _, x := range wrongGrids() {
		g := x.grid
		twin := impl.Grid{Rows: g.Rows, Width: g.Width, Cells: slices.Clone(g.Cells), Back: slices.Clone(g.Back)}
		if !impl.SameGrids(g, twin) || !impl.SameGrids(g, g) {
			t.Fatalf("SameGrids of %v and itself is false", g)
		}
		for _, other := range []impl.Grid{
			{Rows: g.Rows ^ 1, Width: g.Width, Cells: g.Cells, Back: g.Back},
			{Rows: g.Rows, Width: g.Width ^ 1, Cells: g.Cells, Back: g.Back},
			{Rows: g.Rows, Width: g.Width, Cells: append(twin.Cells, blank(0)), Back: g.Back},
			{Rows: g.Rows, Width: g.Width, Cells: g.Cells, Back: append(twin.Back, blank(0))},
		} {
			if impl.SameGrids(g, other) || impl.SameGrids(other, g) {
				t.Fatalf("SameGrids(%v, %v) is true", g, other)
			}
		}
	}
	one, two := []impl.Cell{blank(1)}, []impl.Cell{blank(1), blank(1)}
	if impl.SameGrids(impl.Grid{Cells: one, Back: two}, impl.Grid{Cells: two, Back: one}) {
		t.Error("cells of one list count for the other")
	}
}
