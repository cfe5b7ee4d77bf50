package tests

import (
	"fmt"
	"slices"
	"sync"
	"testing"

	"loop.example/g00523/impl"
)

// markCell is in no grid of the tests.
var markCell = impl.Cell{Char: -7, Attr: -8}

// allGrids are some without a fault, and of those with one each length, and enough of the others.
func allGrids() []impl.Grid {
	grids := someGrids()
	for _, x := range slices.Concat(wrongSizes(), wrongForms()) {
		grids = append(grids, x.grid)
	}
	for i, x := range wrongCells() {
		if i%20 == 0 {
			grids = append(grids, x.grid)
		}
	}
	return grids
}

// gridAsks are calls of every function of chapter 3 that answers a grid of a grid: some that do much, some that do
// nothing, some with wrong numbers.
func gridAsks() map[string]func(impl.Grid) impl.GridResult {
	return map[string]func(impl.Grid) impl.GridResult{
		"PutCell":          func(g impl.Grid) impl.GridResult { return impl.PutCell(g, 0, 1, cell(66, 9)) },
		"PutCell, last":    func(g impl.Grid) impl.GridResult { return impl.PutCell(g, g.Rows-1, g.Width-1, cell(66, 9)) },
		"PutCell, wrong":   func(g impl.Grid) impl.GridResult { return impl.PutCell(g, g.Rows, g.Width, cell(66, 9)) },
		"Scroll by 0":      func(g impl.Grid) impl.GridResult { return impl.ScrollGrid(g, 0, 0, 0, 1) },
		"Scroll by 1":      func(g impl.Grid) impl.GridResult { return impl.ScrollGrid(g, 0, g.Rows-1, 1, 1) },
		"Scroll by 9":      func(g impl.Grid) impl.GridResult { return impl.ScrollGrid(g, 0, g.Rows-1, 9, 1) },
		"Scroll by -2":     func(g impl.Grid) impl.GridResult { return impl.ScrollGrid(g, 0, g.Rows-1, -2, 1) },
		"Scroll the last":  func(g impl.Grid) impl.GridResult { return impl.ScrollGrid(g, g.Rows-1, g.Rows-1, 1, 1) },
		"Scroll, wrong":    func(g impl.Grid) impl.GridResult { return impl.ScrollGrid(g, 0, g.Rows, 1, 1) },
		"Erase none":       func(g impl.Grid) impl.GridResult { return impl.EraseCells(g, 0, 0, 1) },
		"Erase two":        func(g impl.Grid) impl.GridResult { return impl.EraseCells(g, 0, 2, 1) },
		"Erase all":        func(g impl.Grid) impl.GridResult { return impl.EraseCells(g, 0, int64(len(g.Cells)), 1) },
		"Erase, wrong":     func(g impl.Grid) impl.GridResult { return impl.EraseCells(g, 0, int64(len(g.Cells))+1, 1) },
		"Shift by 0":       func(g impl.Grid) impl.GridResult { return impl.ShiftCells(g, 0, 0, 0, 1) },
		"Shift by 1":       func(g impl.Grid) impl.GridResult { return impl.ShiftCells(g, 0, 0, 1, 1) },
		"Shift by -12":     func(g impl.Grid) impl.GridResult { return impl.ShiftCells(g, g.Rows-1, 1, -12, 1) },
		"Shift, wrong":     func(g impl.Grid) impl.GridResult { return impl.ShiftCells(g, 0, 0, 13, 1) },
		"Resize, the same": func(g impl.Grid) impl.GridResult { return impl.ResizeGrid(g, g.Rows, g.Width) },
		"Resize, less":     func(g impl.Grid) impl.GridResult { return impl.ResizeGrid(g, 1, 2) },
		"Resize, more":     func(g impl.Grid) impl.GridResult { return impl.ResizeGrid(g, 6, 12) },
		"Resize, wrong":    func(g impl.Grid) impl.GridResult { return impl.ResizeGrid(g, 0, 13) },
	}
}

// inRoom is a copy of a grid whose lists have room behind them, and the whole of both.
func inRoom(g impl.Grid) (given impl.Grid, cells, back []impl.Cell) {
	given = g
	given.Cells, cells = withRoom(g.Cells, markCell)
	given.Back, back = withRoom(g.Back, markCell)
	return given, cells, back
}

func TestGridsStay(t *testing.T) {
	for _, g := range allGrids() {
		given, cells, back := inRoom(g)
		cellsBefore, backBefore := slices.Clone(cells), slices.Clone(back)
		for name, ask := range gridAsks() {
			ask(given)
			if !slices.Equal(cells, cellsBefore) || !slices.Equal(back, backBefore) {
				t.Fatalf("%s changed %v", name, g)
			}
		}
		impl.GridFault(given)
		impl.SameGrids(given, given)
		impl.SameGrids(given, gridOfSize(6, 12, 5))
		if !slices.Equal(cells, cellsBefore) || !slices.Equal(back, backBefore) {
			t.Fatalf("GridFault or SameGrids changed %v", g)
		}
	}
}

// Cells and Back that lie in one piece of memory, the one ahead of the other, stay as well.
func TestGridsInOnePieceStay(t *testing.T) {
	for _, g := range someGrids() {
		whole := slices.Concat(g.Cells, g.Back, []impl.Cell{markCell, markCell})
		behind := impl.Grid{Rows: g.Rows, Width: g.Width, Cells: whole[:len(g.Cells)], Back: whole[len(g.Cells) : len(g.Cells)+len(g.Back)]}
		before := slices.Clone(whole)
		for name, ask := range gridAsks() {
			if r, want := ask(behind), ask(g); r.Code != want.Code || !sameGrid(r.Grid, want.Grid) {
				t.Fatalf("%s of %v in one piece = %v, want %v", name, g, r, want)
			}
			if !slices.Equal(whole, before) {
				t.Fatalf("%s changed %v in one piece", name, g)
			}
		}
	}
	rows := gridOfSize(5, 4, 0).Cells
	twice := impl.Grid{Rows: 5, Width: 4, Cells: rows, Back: rows}
	before := slices.Clone(rows)
	for name, ask := range gridAsks() {
		r := ask(twice)
		back := slices.Clone(r.Grid.Back)
		overwrite(r.Grid.Cells, markCell)
		if !slices.Equal(r.Grid.Back, back) || !slices.Equal(rows, before) {
			t.Fatalf("%s of a grid whose lists are one answers lists that are one", name)
		}
	}
}

// An answer that is overwritten turns no argument and no other answer, nor one of its lists the other, and an argument no answer.
func TestGridAnswersAreNew(t *testing.T) {
	for _, g := range someGrids() {
		for name, ask := range gridAsks() {
			given, cells, back := inRoom(g)
			cellsBefore, backBefore := slices.Clone(cells), slices.Clone(back)
			first, second := ask(given), ask(given)
			wantCells, wantBack := slices.Clone(first.Grid.Cells), slices.Clone(first.Grid.Back)
			overwrite(first.Grid.Cells, markCell)
			if !slices.Equal(first.Grid.Back, wantBack) {
				t.Fatalf("Back of %s(%v) turns with Cells", name, g)
			}
			overwrite(first.Grid.Back, cell(1, 2))
			if slices.Contains(first.Grid.Cells, cell(1, 2)) {
				t.Fatalf("Cells of %s(%v) turn with Back", name, g)
			}
			if !slices.Equal(cells, cellsBefore) || !slices.Equal(back, backBefore) {
				t.Fatalf("%s(%v) answers memory of its grid", name, g)
			}
			overwrite(cells, cell(3, 4))
			overwrite(back, cell(5, 6))
			if !slices.Equal(second.Grid.Cells, wantCells) || !slices.Equal(second.Grid.Back, wantBack) {
				t.Fatalf("an answer of %s(%v) turns with its grid, or with another answer", name, g)
			}
			if third := ask(g); !slices.Equal(third.Grid.Cells, wantCells) || !slices.Equal(third.Grid.Back, wantBack) {
				t.Fatalf("%s(%v) answers another time %v", name, g, third)
			}
		}
	}
}

func TestNewGridsAreNew(t *testing.T) {
	for _, size := range [][2]int64{{1, 2}, {1, 12}, {6, 2}, {6, 12}} {
		first, second := impl.NewGrid(size[0], size[1]), impl.NewGrid(size[0], size[1])
		want := slices.Clone(first.Grid.Cells)
		overwrite(first.Grid.Cells, markCell)
		if !slices.Equal(second.Grid.Cells, want) || !slices.Equal(impl.NewGrid(size[0], size[1]).Grid.Cells, want) {
			t.Errorf("answers of NewGrid(%v) share memory", size)
		}
	}
}

// gridAnswers calls every function of chapter 3 with that grid and number, and tells all answers.
func gridAnswers(g impl.Grid, n int64) string {
	return fmt.Sprint(impl.GridFault(g), impl.NewGrid(n, n), impl.NewGrid(1, n), impl.NewGrid(n, 2),
		impl.PutCell(g, n, 0, blank(0)), impl.PutCell(g, 0, n, blank(0)), impl.PutCell(g, 0, 0, cell(n, 0)), impl.PutCell(g, 0, 0, cell(65, n)), impl.PutCell(g, n, n, cell(n, n)),
		impl.ScrollGrid(g, n, 5, 1, 0), impl.ScrollGrid(g, 0, n, 1, 0), impl.ScrollGrid(g, 0, 0, n, 0), impl.ScrollGrid(g, 0, 0, 1, n), impl.ScrollGrid(g, n, n, n, n),
		impl.EraseCells(g, n, 2, 0), impl.EraseCells(g, 0, n, 0), impl.EraseCells(g, 0, 1, n), impl.EraseCells(g, n, n, n),
		impl.ShiftCells(g, n, 0, 1, 0), impl.ShiftCells(g, 0, n, 1, 0), impl.ShiftCells(g, 0, 0, n, 0), impl.ShiftCells(g, 0, 0, 1, n), impl.ShiftCells(g, n, n, n, n),
		impl.ResizeGrid(g, n, 3), impl.ResizeGrid(g, 3, n), impl.ResizeGrid(g, n, n), impl.SameGrids(g, impl.NewGrid(n, n).Grid))
}

func gridNumbers() []int64 {
	return []int64{bigNumbers[0], bigNumbers[3], 1 << 32, 1 << 62, -13, -12, -10, -9, -1, 0, 1, 2, 5, 6, 7, 9, 10, 12, 13, 31, 32, 72, 127, 55296, 65535, 65536}
}

// someOfAll are grids with lengths that fit and that do not, fewer than all: each of them is asked often.
func someOfAll() []impl.Grid {
	grids := []impl.Grid{{}, {Rows: 6, Width: 12}, {Rows: 1, Width: 2, Back: make([]impl.Cell, 3)}, {Rows: 1 << 62, Width: 4}, {Rows: -1, Width: -2, Cells: make([]impl.Cell, 2)}}
	for i, g := range allGrids() {
		if i%17 == 0 {
			grids = append(grids, g)
		}
	}
	return grids
}

// Whatever comes in, from however many callers, in whatever order: nothing panics, and the same call answers the same.
func TestGridsAnswerAtEveryArgument(t *testing.T) {
	grids, numbers := someOfAll(), gridNumbers()
	all := make([][]string, 3)
	var wait sync.WaitGroup
	for i := range all {
		wait.Go(func() {
			for _, g := range grids {
				for _, n := range numbers {
					all[i] = append(all[i], gridAnswers(g, n))
				}
			}
		})
	}
	wait.Wait()
	for i, g := range slices.Backward(grids) {
		for j, n := range slices.Backward(numbers) {
			want := gridAnswers(g, n)
			for _, one := range all {
				if one[i*len(numbers)+j] != want {
					t.Fatalf("other answers at %v, %d", g, n)
				}
			}
		}
	}
}

// A grid of which an empty list and nil are Back, or the cells, is the same grid.
func TestNoCellsAndNil(t *testing.T) {
	for _, g := range []impl.Grid{gridOfSize(1, 2, 0), gridOfSize(6, 12, 0), {}, {Rows: 1, Width: 2}, {Rows: 7, Width: 2}} {
		other := g
		other.Back = []impl.Cell{}
		if len(g.Cells) == 0 {
			other.Cells = []impl.Cell{}
		}
		if !impl.SameGrids(g, other) || !impl.SameGrids(other, g) {
			t.Errorf("SameGrids(%v, %v) is false", g, other)
		}
		for _, n := range gridNumbers() {
			if a, b := gridAnswers(g, n), gridAnswers(other, n); a != b {
				t.Fatalf("with nil %s, with an empty list %s", a, b)
			}
		}
	}
}
