package tests

import (
	"math"
	"slices"
	"testing"

	"loop.example/g00523/impl"
)

// turned is a screen, with lists of its own, with something on it turned.
func turned(s impl.Screen, turns ...func(*impl.Screen)) impl.Screen {
	s.Grid.Cells, s.Grid.Back = slices.Clone(s.Grid.Cells), slices.Clone(s.Grid.Back)
	s.Tabs, s.Sets = slices.Clone(s.Tabs), slices.Clone(s.Sets)
	for _, turn := range turns {
		turn(&s)
	}
	return s
}

type turn = func(*impl.Screen)

// gridTurns make a grid's fault, in the order in which a grid is asked.
func gridTurns() []turn {
	return []turn{
		func(s *impl.Screen) { s.Grid.Rows = 7 },
		func(s *impl.Screen) { s.Grid.Rows = 0 },
		func(s *impl.Screen) { s.Grid.Width = 1 },
		func(s *impl.Screen) { s.Grid.Width = 13 },
		func(s *impl.Screen) { s.Grid.Rows = math.MinInt64 },
		func(s *impl.Screen) { s.Grid.Width = math.MaxInt64 },
	}
}

func formTurnsOfGrid() []turn {
	return []turn{
		func(s *impl.Screen) { s.Grid.Cells = s.Grid.Cells[1:] },
		func(s *impl.Screen) { s.Grid.Cells = nil },
		func(s *impl.Screen) { s.Grid.Back = append(s.Grid.Back, blank(0)) },
	}
}

func cellTurns() []turn {
	return []turn{
		func(s *impl.Screen) { s.Grid.Cells[len(s.Grid.Cells)-1].Char = 127 },
		func(s *impl.Screen) { s.Grid.Cells[0].Attr = 32 },
		func(s *impl.Screen) { s.Grid.Back[0].Char = 31 },
		func(s *impl.Screen) { s.Grid.Back[0].Attr = -1 },
	}
}

// rangeTurns make one number each leave its bounds, by one and by far.
func rangeTurns() []turn {
	var turns []turn
	for _, field := range []struct {
		of    func(*impl.Screen) *int64
		least int64
		most  func(impl.Screen) int64
	}{
		{func(s *impl.Screen) *int64 { return &s.Y }, 0, func(s impl.Screen) int64 { return s.Grid.Rows - 1 }},
		{func(s *impl.Screen) *int64 { return &s.X }, 0, func(s impl.Screen) int64 { return s.Grid.Width - 1 }},
		{func(s *impl.Screen) *int64 { return &s.Attr }, 0, func(impl.Screen) int64 { return 31 }},
		{func(s *impl.Screen) *int64 { return &s.KeptY }, 0, func(impl.Screen) int64 { return 5 }},
		{func(s *impl.Screen) *int64 { return &s.KeptX }, 0, func(impl.Screen) int64 { return 11 }},
		{func(s *impl.Screen) *int64 { return &s.KeptAttr }, 0, func(impl.Screen) int64 { return 31 }},
		{func(s *impl.Screen) *int64 { return &s.Sets[0] }, 1, func(impl.Screen) int64 { return 3 }},
		{func(s *impl.Screen) *int64 { return &s.Sets[1] }, 1, func(impl.Screen) int64 { return 3 }},
		{func(s *impl.Screen) *int64 { return &s.Shift }, 0, func(impl.Screen) int64 { return 1 }},
		{func(s *impl.Screen) *int64 { return &s.Bells }, 0, func(impl.Screen) int64 { return 999 }},
	} {
		turns = append(turns, func(s *impl.Screen) { *field.of(s) = field.least - 1 }, func(s *impl.Screen) { *field.of(s) = field.most(*s) + 1 })
		for _, n := range bigNumbers {
			turns = append(turns, func(s *impl.Screen) { *field.of(s) = n })
		}
	}
	for _, sets := range [][]int64{nil, {}, {1}, {1, 1, 1}, {3, 2, 1, 1}} {
		turns = append(turns, func(s *impl.Screen) { s.Sets = slices.Clone(sets) })
	}
	return turns
}

// formTurns make one thing each not fit to the others, on a screen of at least two rows.
func formTurns() []turn {
	turns := []turn{
		func(s *impl.Screen) { s.Tabs = s.Tabs[1:] },
		func(s *impl.Screen) { s.Tabs = append(s.Tabs, false) },
		func(s *impl.Screen) { s.Tabs = nil },
		func(s *impl.Screen) { s.Wrap, s.AutoWrap, s.X = true, true, s.Grid.Width-2 },
		func(s *impl.Screen) { s.Wrap, s.AutoWrap, s.X = true, true, 0 },
		func(s *impl.Screen) { s.Wrap, s.AutoWrap, s.X = true, false, s.Grid.Width-1 },
		func(s *impl.Screen) { s.Top, s.Bottom = s.Grid.Rows-1, 0 },
	}
	for row := range int64(2) {
		turns = append(turns, func(s *impl.Screen) { s.Top, s.Bottom = row, row })
	}
	for _, n := range append([]int64{-1, 6, 7}, bigNumbers...) {
		turns = append(turns, func(s *impl.Screen) { s.Top = n }, func(s *impl.Screen) { s.Bottom = n }, func(s *impl.Screen) { s.Top, s.Bottom = n, n },
			func(s *impl.Screen) { s.Top, s.Bottom, s.Origin = n, n, true })
	}
	return turns
}

// wrongScreen is a screen with the code that it has to be told.
type wrongScreen struct {
	screen impl.Screen
	code   int64
}

// wrongScreens have each fault alone, and together with each of those that are asked behind it.
func wrongScreens() []wrongScreen {
	levels := []struct {
		turns []turn
		code  int64
	}{{gridTurns(), impl.ErrRange}, {formTurnsOfGrid(), impl.ErrForm}, {cellTurns(), impl.ErrRange}, {rangeTurns(), impl.ErrRange}, {formTurns(), impl.ErrForm}}
	var wrong []wrongScreen
	for _, s := range []impl.Screen{screenOfSize(2, 2, 1), screenOfSize(6, 12, 5), screenOfSize(4, 9, 2)} {
		for i, level := range levels {
			for _, one := range level.turns {
				wrong = append(wrong, wrongScreen{turned(s, one), level.code})
				for _, behind := range levels[i+1:] {
					for j, two := range behind.turns {
						if j%5 == 0 {
							wrong = append(wrong, wrongScreen{turned(s, two, one), level.code})
						}
					}
				}
			}
		}
	}
	return append(wrong, wrongScreen{impl.Screen{}, impl.ErrRange}, wrongScreen{impl.Screen{Grid: gridOfSize(1, 2, 0)}, impl.ErrRange},
		wrongScreen{impl.Screen{Grid: gridOfSize(1, 2, 0), Sets: []int64{1, 1}}, impl.ErrForm})
}

func TestScreenFault(t *testing.T) {
	for _, x := range wrongScreens() {
		if code := impl.ScreenFault(x.screen); code != x.code {
			t.Fatalf("ScreenFault(%v) = %d, want %d", x.screen, code, x.code)
		}
	}
	for _, x := range wrongGrids() {
		if code := impl.ScreenFault(impl.Screen{Grid: x.grid, Y: -1, Top: -1}); code != x.code {
			t.Fatalf("ScreenFault of the grid %v = %d, want %d", x.grid, code, x.code)
		}
	}
}

// At the bounds themselves there is no fault.
func TestScreenFaultBounds(t *testing.T) {
	for _, g := range goodGrids() {
		for _, one := range []turn{
			func(*impl.Screen) {},
			func(s *impl.Screen) { s.Y, s.X = s.Grid.Rows-1, s.Grid.Width-1 },
			func(s *impl.Screen) { s.X, s.Wrap = s.Grid.Width-1, true },
			func(s *impl.Screen) { s.Attr, s.KeptY, s.KeptX, s.KeptAttr = 31, 5, 11, 31 },
			func(s *impl.Screen) { s.Sets, s.Shift, s.Bells = []int64{3, 2}, 1, 999 },
			func(s *impl.Screen) { s.Sets, s.Shift, s.Bells = []int64{2, 3}, 1, 998 },
			func(s *impl.Screen) { s.Origin, s.AutoWrap, s.Insert = true, false, true },
			func(s *impl.Screen) { s.Origin, s.Y, s.Tabs = true, s.Grid.Rows-1, make([]bool, s.Grid.Width) },
		} {
			if s := turned(screenOfGrid(g), one); impl.ScreenFault(s) != impl.OK {
				t.Fatalf("ScreenFault(%v) = %d", s, impl.ScreenFault(s))
			}
		}
	}
}

// Of every pair of rows just those are a region that the document tells, and with Origin the place is in it.
func TestScreenFaultOfRegions(t *testing.T) {
	for rows := int64(1); rows <= 6; rows++ {
		for top := int64(-2); top < 9; top++ {
			for bottom := int64(-2); bottom < 9; bottom++ {
				for y := range rows {
					for _, origin := range []bool{false, true} {
						s := screenOfSize(rows, 3, 0)
						s.Top, s.Bottom, s.Y, s.Origin = top, bottom, y, origin
						right := top >= 0 && bottom < rows && (top < bottom || rows == 1 && top == 0 && bottom == 0)
						right = right && (!origin || top <= y && y <= bottom)
						if got := impl.ScreenFault(s); got != codeIf(!right, impl.ErrForm) {
							t.Fatalf("of %d rows %d to %d, at %d, Origin %v: %d", rows, top, bottom, y, origin, got)
						}
					}
				}
			}
		}
	}
}

func TestScreenFaultIsAskedFirst(t *testing.T) {
	for _, x := range wrongScreens() {
		for _, a := range []impl.Action{{}, {Kind: 1, Char: 'a'}, {Kind: 3, Char: 'c'}, {Kind: 9}, {Kind: 4, Char: 'm'}, {Kind: 1, Char: -1}} {
			if r := impl.DoAction(x.screen, a); !onlyScreenCode(r, x.code) {
				t.Fatalf("%v on %v = %v, want %d", a, x.screen, r, x.code)
			}
			if r := impl.DoAll(x.screen, []impl.Action{a, a}); !onlyScreenCode(r, x.code) {
				t.Fatalf("twice %v on %v = %v, want %d", a, x.screen, r, x.code)
			}
		}
		for _, n := range []int64{0, 2, 99} {
			if r := impl.ResizeScreen(x.screen, n, n); !onlyScreenCode(r, x.code) {
				t.Fatalf("%v to %d = %v, want %d", x.screen, n, r, x.code)
			}
			if r := impl.RowText(x.screen, n); r != (impl.TextResult{Code: x.code}) {
				t.Fatalf("row %d of %v = %v, want %d", n, x.screen, r, x.code)
			}
		}
		if r := impl.DoAll(x.screen, nil); !onlyScreenCode(r, x.code) {
			t.Fatalf("nothing on %v = %v, want %d", x.screen, r, x.code)
		}
	}
}

// noSizes are pairs of which at least one is out of bounds; one by one, and one column, are none either.
func noSizes() [][2]int64 {
	sizes := [][2]int64{{0, 2}, {-1, 2}, {7, 12}, {8, 12}, {1, 1}, {6, 1}, {1, 0}, {1, -2}, {1, 13}, {6, 14}, {12, 6}, {0, 0}, {7, 13}}
	for _, n := range bigNumbers {
		sizes = append(sizes, [2]int64{n, 4}, [2]int64{4, n}, [2]int64{n, n})
	}
	return sizes
}

func TestNewScreen(t *testing.T) {
	for rows := int64(1); rows <= 6; rows++ {
		for width := int64(2); width <= 12; width++ {
			if r := impl.NewScreen(rows, width); !rightScreen(r, emptyScreen(rows, width)) {
				t.Errorf("NewScreen(%d, %d) = %v", rows, width, r)
			}
		}
	}
	for _, size := range noSizes() {
		if r := impl.NewScreen(size[0], size[1]); !onlyScreenCode(r, impl.ErrRange) {
			t.Errorf("NewScreen(%v) = %v", size, r)
		}
	}
}

// Promise 6: a screen of another size shows what is in both; what else there is stays.
func TestResizeScreenEverywhere(t *testing.T) {
	for _, s := range fewScreens(17) {
		for rows := int64(1); rows <= 6; rows++ {
			for width := int64(2); width <= 12; width++ {
				r := impl.ResizeScreen(s, rows, width)
				if !rightScreen(r, resizedScreen(s, rows, width)) {
					t.Fatalf("%v to %d, %d = %v", s, rows, width, r)
				}
				for y := range min(rows, s.Grid.Rows) {
					for x := range min(width, s.Grid.Width) {
						if r.Screen.Grid.Cells[y*width+x] != s.Grid.Cells[y*s.Grid.Width+x] {
							t.Fatalf("%v to %d, %d shows another cell at %d, %d", s, rows, width, y, x)
						}
					}
				}
			}
		}
		for _, size := range noSizes() {
			if r := impl.ResizeScreen(s, size[0], size[1]); !onlyScreenCode(r, impl.ErrRange) {
				t.Fatalf("%v to %v = %v", s, size, r)
			}
		}
	}
}

func TestResizeScreenByHand(t *testing.T) {
	s := behind(t, screenOfText("wxyz|abcd/efgh/ijkl"), "\x1b[2G\x1bH\x1b[2;3r\x1b[?6h\x1b[2;4Hm")
	for _, x := range []struct {
		rows, width int64
		want        string
		tabs        []bool
	}{
		{3, 4, "wxyz|abcd/efgh/ijkm 2,3", []bool{false, true, false, false}},
		{2, 4, "wxyz|abcd/efgh 1,3", []bool{false, true, false, false}},
		{1, 2, "wx|ab 0,1", []bool{false, true}},
		{4, 5, "wxyz.|abcd./efgh./ijkm./..... 2,3", []bool{false, true, false, false, false}},
		{3, 9, "wxyz.....|abcd...../efgh...../ijkm..... 2,3", []bool{false, true, false, false, false, false, false, false, true}},
	} {
		r := impl.ResizeScreen(s, x.rows, x.width)
		if got := shownText(r.Screen); got != x.want || !slices.Equal(r.Screen.Tabs, x.tabs) || r.Screen.Top != 0 || r.Screen.Bottom != x.rows-1 || !r.Screen.Origin {
			t.Errorf("to %d, %d: %s, %v, want %s", x.rows, x.width, got, r.Screen, x.want)
		}
	}
	// A stop that was taken from column 8 stays away, and one that was set there goes with its column.
	gone := behind(t, emptyScreen(1, 9), "\x1b[3g")
	if r := impl.ResizeScreen(gone, 1, 12).Screen; slices.Contains(r.Tabs, true) {
		t.Errorf("tab stops are %v", r.Tabs)
	}
	if r := impl.ResizeScreen(impl.ResizeScreen(gone, 1, 8).Screen, 1, 12).Screen; !r.Tabs[8] {
		t.Errorf("tab stops are %v", r.Tabs)
	}
}

func TestRowText(t *testing.T) {
	s := behind(t, emptyScreen(3, 4), "ab\x1b[2;1H\u00e4\u20ac\uffff \x1b[3;2H\x1b[31m~\u0080\x1b[m")
	for y, want := range []string{"ab  ", "\u00e4\u20ac\uffff ", " ~\u0080 "} {
		if r := impl.RowText(s, int64(y)); r != (impl.TextResult{Text: want}) {
			t.Errorf("row %d is %v, want %q", y, r, want)
		}
	}
	for _, s := range fewScreens(11) {
		for y := range s.Grid.Rows {
			want := ""
			for _, c := range s.Grid.Cells[y*s.Grid.Width : (y+1)*s.Grid.Width] {
				want += string(rune(c.Char))
			}
			if r := impl.RowText(s, y); r != (impl.TextResult{Text: want}) {
				t.Fatalf("row %d of %v is %v, want %q", y, s, r, want)
			}
		}
		for _, y := range append([]int64{-2, -1, s.Grid.Rows, s.Grid.Rows + 1, 99}, bigNumbers...) {
			if r := impl.RowText(s, y); r != (impl.TextResult{Code: impl.ErrRange}) {
				t.Fatalf("row %d of %v is %v", y, s, r)
			}
		}
	}
}

func TestSameShown(t *testing.T) {
	shown := map[string]turn{
		"Rows":       func(s *impl.Screen) { s.Grid.Rows++ },
		"Width":      func(s *impl.Screen) { s.Grid.Width++ },
		"first Char": func(s *impl.Screen) { s.Grid.Cells[0].Char++ },
		"last Char":  func(s *impl.Screen) { s.Grid.Cells[len(s.Grid.Cells)-1].Char++ },
		"first Attr": func(s *impl.Screen) { s.Grid.Cells[0].Attr++ },
		"more Cells": func(s *impl.Screen) { s.Grid.Cells = append(s.Grid.Cells, blank(0)) },
		"less Cells": func(s *impl.Screen) { s.Grid.Cells = s.Grid.Cells[:len(s.Grid.Cells)-1] },
		"Y":          func(s *impl.Screen) { s.Y++ },
		"X":          func(s *impl.Screen) { s.X++ },
		"Wrap":       func(s *impl.Screen) { s.Wrap = !s.Wrap },
		"Attr":       func(s *impl.Screen) { s.Attr++ },
		"Top":        func(s *impl.Screen) { s.Top++ },
		"Bottom":     func(s *impl.Screen) { s.Bottom++ },
		"Origin":     func(s *impl.Screen) { s.Origin = !s.Origin },
		"AutoWrap":   func(s *impl.Screen) { s.AutoWrap = !s.AutoWrap },
		"Insert":     func(s *impl.Screen) { s.Insert = !s.Insert },
		"first Tab":  func(s *impl.Screen) { s.Tabs[0] = !s.Tabs[0] },
		"last Tab":   func(s *impl.Screen) { s.Tabs[len(s.Tabs)-1] = !s.Tabs[len(s.Tabs)-1] },
		"more Tabs":  func(s *impl.Screen) { s.Tabs = append(s.Tabs, false) },
		"no Tabs":    func(s *impl.Screen) { s.Tabs = nil },
		"first Set":  func(s *impl.Screen) { s.Sets[0]++ },
		"second Set": func(s *impl.Screen) { s.Sets[1]++ },
		"more Sets":  func(s *impl.Screen) { s.Sets = append(s.Sets, 1) },
		"Shift":      func(s *impl.Screen) { s.Shift++ },
	}
	hidden := map[string]turn{
		"nothing":   func(*impl.Screen) {},
		"KeptY":     func(s *impl.Screen) { s.KeptY++ },
		"KeptX":     func(s *impl.Screen) { s.KeptX++ },
		"KeptAttr":  func(s *impl.Screen) { s.KeptAttr++ },
		"Bells":     func(s *impl.Screen) { s.Bells++ },
		"no Back":   func(s *impl.Screen) { s.Grid.Back = nil },
		"more Back": func(s *impl.Screen) { s.Grid.Back = append(s.Grid.Back, blank(3)) },
		"Back":      func(s *impl.Screen) { s.Grid.Back = []impl.Cell{cell(77, 7), cell(78, 8)} },
	}
	for _, s := range fewScreens(53) {
		for name, one := range shown {
			if other := turned(s, one); impl.SameShown(s, other) || impl.SameShown(other, s) {
				t.Fatalf("%v is the same with another %s", s, name)
			}
		}
		for name, one := range hidden {
			if other := turned(s, one); !impl.SameShown(s, other) || !impl.SameShown(other, s) {
				t.Fatalf("%v is not the same with %s", s, name)
			}
		}
	}
	if !impl.SameShown(impl.Screen{}, impl.Screen{Tabs: []bool{}, Sets: []int64{}, Grid: impl.Grid{Cells: []impl.Cell{}, Back: []impl.Cell{}}}) {
		t.Error("nil and an empty list are not the same")
	}
}
