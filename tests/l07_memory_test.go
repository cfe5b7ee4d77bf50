package tests

import (
	"fmt"
	"slices"
	"sync"
	"testing"

	"loop.example/g00523/impl"
)

// dumpAsks are calls of the functions of chapter 7 that are given a screen.
func dumpAsks() []func(impl.Screen) impl.BytesResult {
	asks := []func(impl.Screen) impl.BytesResult{impl.DumpScreen}
	for y := int64(-1); y <= 6; y++ {
		asks = append(asks, func(s impl.Screen) impl.BytesResult { return impl.RowBytes(s, y) })
	}
	return asks
}

// An answer that is overwritten turns no argument and no other answer; an argument turns no answer.
func TestDumpAnswersAreNew(t *testing.T) {
	for _, s := range append(allScreens(), waitingScreens()[:40]...) {
		for i, ask := range dumpAsks() {
			given := roomy(s)
			before := given.clone()
			first, second := ask(given.screen), ask(given.screen)
			want := fmt.Sprint(first)
			overwrite(first.Bytes, 'x')
			if !given.same(before) {
				t.Fatalf("call %d changed %v, or answers its memory", i, s)
			}
			overwrite(given.cells, markCell)
			overwrite(given.back, markCell)
			overwrite(given.sets, 3)
			overwrite(given.tabs, true)
			if fmt.Sprint(second) != want {
				t.Fatalf("an answer of call %d of %v turns with its screen, or with another answer", i, s)
			}
			if third := ask(s); fmt.Sprint(third) != want {
				t.Fatalf("call %d of %v answers another time %v", i, s, third)
			}
		}
	}
}

func TestAttrBytesAnswersAreNew(t *testing.T) {
	for attr := range int64(32) {
		first, second := impl.AttrBytes(attr), impl.AttrBytes(attr)
		overwrite(first.Bytes, 'x')
		if want := "\x1b" + attrTexts[attr]; !onlyBytes(second, want) || !onlyBytes(impl.AttrBytes(attr), want) {
			t.Errorf("answers of AttrBytes(%d) share memory", attr)
		}
	}
}

// The lists of a screen may lie in one piece of memory: it is dumped as any other.
func TestDumpOfOnePiece(t *testing.T) {
	cells := slices.Concat(gridOfSize(4, 3, 0).Cells, gridOfSize(4, 3, 2).Back)
	s := screenOfGrid(impl.Grid{Rows: 4, Width: 3, Cells: cells[:12], Back: cells[12:]})
	kept := slices.Clone(cells)
	for i, ask := range dumpAsks() {
		r, want := ask(s), ask(turned(s))
		if r.Code != want.Code || string(r.Bytes) != string(want.Bytes) || !slices.Equal(cells, kept) {
			t.Errorf("call %d in one piece = %v, want %v", i, r, want)
		}
	}
}

// dumpAnswers calls every function of chapter 7 with that screen and number, and tells all answers.
func dumpAnswers(s impl.Screen, n int64) string {
	out := fmt.Sprint(impl.AttrBytes(n), impl.RowBytes(s, n), impl.DumpScreen(s))
	for _, one := range []turn{func(s *impl.Screen) { s.Y, s.X = n, n }, func(s *impl.Screen) { s.Top = n }, func(s *impl.Screen) { s.Bottom = n }, func(s *impl.Screen) { s.Attr = n }, func(s *impl.Screen) { s.Top, s.Origin = n, true },
		func(s *impl.Screen) { s.X, s.Wrap = n, true }, func(s *impl.Screen) { s.Sets = []int64{n, n} }, func(s *impl.Screen) { s.Shift = n }, func(s *impl.Screen) { s.Grid.Rows = n }, func(s *impl.Screen) { s.Grid.Width = n }, func(s *impl.Screen) { s.Grid.Cells = []impl.Cell{cell(n, n), cell(n, 1)} }} {
		other := turned(s, one)
		out += fmt.Sprint(impl.DumpScreen(other), impl.RowBytes(other, 0), impl.RowBytes(other, n))
	}
	return out
}

// Whatever comes in, from however many callers, in whatever order: nothing panics, and the same call answers the same.
func TestDumpsAnswerAtEveryArgument(t *testing.T) {
	screens := allScreens()
	screens = slices.Concat(screens[:12], screens[len(screens)-12:])
	numbers := append([]int64{-1, 0, 1, 2, 3, 5, 6, 7, 11, 12, 13, 31, 32, 127, 55296, 65536}, bigNumbers...)
	all := make([][]string, 3)
	var wait sync.WaitGroup
	for i := range all {
		wait.Go(func() {
			for _, s := range screens {
				for _, n := range numbers {
					all[i] = append(all[i], dumpAnswers(s, n))
				}
			}
		})
	}
	wait.Wait()
	for i, s := range slices.Backward(screens) {
		for j, n := range slices.Backward(numbers) {
			want := dumpAnswers(s, n)
			for _, one := range all {
				if one[i*len(numbers)+j] != want {
					t.Fatalf("other answers at %v, %d", s, n)
				}
			}
		}
	}
}

// A screen of which nil and an empty list are Back, Sets, Tabs or Cells is dumped to the same.
func TestDumpOfNoListsAndNil(t *testing.T) {
	for _, s := range []impl.Screen{screenOfSize(2, 3, 0), {}, {Grid: impl.Grid{Rows: 1, Width: 2}}, turned(screenOfSize(2, 3, 0), func(s *impl.Screen) { s.Tabs = nil }), turned(screenOfSize(2, 3, 0), func(s *impl.Screen) { s.Sets = nil })} {
		other := turned(s)
		other.Grid.Back = []impl.Cell{}
		if len(s.Grid.Cells) == 0 {
			other.Grid.Cells = []impl.Cell{}
		}
		if len(s.Tabs) == 0 {
			other.Tabs = []bool{}
		}
		if len(s.Sets) == 0 {
			other.Sets = []int64{}
		}
		for _, n := range []int64{-1, 0, 1, 2, 7, 65} {
			if a, b := dumpAnswers(s, n), dumpAnswers(other, n); a != b {
				t.Fatalf("with nil %s, with empty lists %s", a, b)
			}
		}
	}
}
