package tests

import (
	"fmt"
	"math/rand/v2"
	"slices"
	"sync"
	"testing"

	"loop.example/g00523/impl"
)

// roomyScreen is a screen whose lists have room behind them, with the whole of each.
type roomyScreen struct {
	screen      impl.Screen
	cells, back []impl.Cell
	tabs        []bool
	sets        []int64
}

func roomy(s impl.Screen) roomyScreen {
	r := roomyScreen{screen: s}
	r.screen.Grid, r.cells, r.back = inRoom(s.Grid)
	r.screen.Tabs, r.tabs = withRoom(s.Tabs, true)
	r.screen.Sets, r.sets = withRoom(s.Sets, markNumber)
	return r
}

func (r roomyScreen) clone() roomyScreen {
	return roomyScreen{r.screen, slices.Clone(r.cells), slices.Clone(r.back), slices.Clone(r.tabs), slices.Clone(r.sets)}
}

func (r roomyScreen) same(other roomyScreen) bool {
	return slices.Equal(r.cells, other.cells) && slices.Equal(r.back, other.back) && slices.Equal(r.tabs, other.tabs) && slices.Equal(r.sets, other.sets)
}

// spoil turns all that the lists of a screen hold, and the room behind them.
func spoil(s impl.Screen) {
	overwrite(s.Grid.Cells, markCell)
	overwrite(s.Grid.Back, cell(-9, -9))
	overwrite(s.Sets, -5)
	tabs := s.Tabs[:cap(s.Tabs)]
	for i := range tabs {
		tabs[i] = !tabs[i]
	}
}

// screenAsks are calls of every function of chapter 5 that answers a screen of a screen.
func screenAsks() []func(impl.Screen) impl.ScreenResult {
	var asks []func(impl.Screen) impl.ScreenResult
	texts := []string{"", "a", "abcdefghijklmnop", "\a", "\b", "\t", "\n", "\n\n\n\n\n\n\n", "\r", "\x0e", "\x1bc", "\x1bD", "\x1bE", "\x1bH", "\x1bM", "\x1b7", "\x1b8", "\x1b(0", "\x1b)U", "\x1b[4hab",
		"\x1b[A", "\x1b[2;2H", "\x1b[J", "\x1b[1K", "\x1b[X", "\x1b[L", "\x1b[M", "\x1b[H\x1b[M", "\x1b[S", "\x1b[9S", "\x1b[T", "\x1b[@", "\x1b[P", "\x1b[1;31m", "\x1b[g", "\x1b[3g", "\x1b[1;2r", "\x1b[?6h", "\x1b[?7l", "\x1b[z", "\x1b[S\x1b[M\x1b[S\x1bc\n\n\n"}
	for _, text := range texts {
		list := todo(text)
		asks = append(asks, func(s impl.Screen) impl.ScreenResult { return impl.DoAll(s, list) })
		if len(list) == 1 {
			asks = append(asks, func(s impl.Screen) impl.ScreenResult { return impl.DoAction(s, list[0]) })
		}
	}
	return append(asks,
		func(s impl.Screen) impl.ScreenResult { return impl.DoAction(s, impl.Action{}) },
		func(s impl.Screen) impl.ScreenResult { return impl.DoAction(s, impl.Action{Kind: 9}) },
		func(s impl.Screen) impl.ScreenResult { return impl.DoAll(s, make([]impl.Action, 2001)) },
		func(s impl.Screen) impl.ScreenResult { return impl.ResizeScreen(s, s.Grid.Rows, s.Grid.Width) },
		func(s impl.Screen) impl.ScreenResult { return impl.ResizeScreen(s, 1, 2) },
		func(s impl.Screen) impl.ScreenResult { return impl.ResizeScreen(s, 6, 12) },
		func(s impl.Screen) impl.ScreenResult { return impl.ResizeScreen(s, 0, 12) },
	)
}

// allScreens are some without a fault, and some with each.
func allScreens() []impl.Screen {
	screens := fewScreens(61)
	for i, x := range wrongScreens() {
		if i%397 == 0 {
			screens = append(screens, x.screen)
		}
	}
	return append(screens, impl.Screen{}, impl.Screen{Grid: impl.Grid{Rows: 6, Width: 12}}, turned(screenOfSize(2, 3, 1), func(s *impl.Screen) { s.Sets = nil }), turned(screenOfSize(2, 3, 1), func(s *impl.Screen) { s.Tabs = nil }))
}

func TestScreensStay(t *testing.T) {
	for _, s := range allScreens() {
		given := roomy(s)
		before := given.clone()
		for i, ask := range screenAsks() {
			ask(given.screen)
			if !given.same(before) {
				t.Fatalf("call %d changed %v", i, s)
			}
		}
		impl.ScreenFault(given.screen)
		impl.RowText(given.screen, 0)
		impl.RowText(given.screen, 9)
		impl.SameShown(given.screen, given.screen)
		impl.SameShown(given.screen, screenOfSize(6, 12, 5))
		impl.SameShown(screenOfSize(6, 12, 5), given.screen)
		if !given.same(before) {
			t.Fatalf("ScreenFault, RowText or SameShown changed %v", s)
		}
	}
}

func TestDoneListsStay(t *testing.T) {
	r := rand.New(rand.NewPCG(9, 9))
	for _, s := range fewScreens(71) {
		var list []impl.Action
		var numbers, copies [][]int64
		for range 60 {
			a := anyAction(r)
			if a.Kind == 4 {
				short, whole := withRoom(a.Params, markNumber)
				a.Params = short
				numbers, copies = append(numbers, whole), append(copies, slices.Clone(whole))
			}
			list = append(list, a)
		}
		short, whole := withRoom(list, impl.Action{Kind: 77})
		before := actionsAll(whole)
		first := impl.DoAll(s, short)
		want := fmt.Sprint(first)
		for i := range numbers {
			if !slices.Equal(numbers[i], copies[i]) {
				t.Fatalf("numbers %v of an action became %v", copies[i], numbers[i])
			}
			overwrite(numbers[i], 3)
		}
		if fmt.Sprint(first) != want {
			t.Fatal("an answer turned with the numbers of an action")
		}
		for i := range numbers {
			copy(numbers[i], copies[i])
		}
		if actionsAll(whole) != before {
			t.Fatal("DoAll changed its list")
		}
		overwrite(whole, impl.Action{Kind: 5})
		if fmt.Sprint(first) != want {
			t.Fatal("an answer turned with its list")
		}
	}
}

// An answer that is overwritten turns no argument, no other answer and, one of its lists, no other list; an argument turns no answer.
func TestScreenAnswersAreNew(t *testing.T) {
	for _, s := range fewScreens(61) {
		for i, ask := range screenAsks() {
			given := roomy(s)
			before := given.clone()
			first, second := ask(given.screen), ask(given.screen)
			want := fmt.Sprint(first)
			back := slices.Clone(first.Screen.Grid.Back)
			overwrite(first.Screen.Grid.Cells, markCell)
			if !slices.Equal(first.Screen.Grid.Back, back) {
				t.Fatalf("Back of call %d of %v turns with Cells", i, s)
			}
			overwrite(first.Screen.Grid.Back, cell(-9, -9))
			if slices.Contains(first.Screen.Grid.Cells, cell(-9, -9)) {
				t.Fatalf("Cells of call %d of %v turn with Back", i, s)
			}
			spoil(first.Screen)
			if !given.same(before) {
				t.Fatalf("call %d of %v answers memory of its screen", i, s)
			}
			overwrite(given.cells, cell(3, 4))
			overwrite(given.back, cell(5, 6))
			overwrite(given.sets, 9)
			for x := range given.tabs {
				given.tabs[x] = !given.tabs[x]
			}
			if fmt.Sprint(second) != want {
				t.Fatalf("an answer of call %d of %v turns with its screen, or with another answer", i, s)
			}
			if third := ask(s); fmt.Sprint(third) != want {
				t.Fatalf("call %d of %v answers another time %v", i, s, third)
			}
		}
	}
}

// A screen of which Cells and Back lie in one piece of memory, or are one, is done on as any other.
func TestScreensInOnePiece(t *testing.T) {
	whole := slices.Concat(gridOfSize(4, 3, 0).Cells, gridOfSize(4, 3, 2).Back, []impl.Cell{markCell, markCell, markCell})
	behindCells := screenOfGrid(impl.Grid{Rows: 4, Width: 3, Cells: whole[:12], Back: whole[12:18]})
	twice := screenOfGrid(impl.Grid{Rows: 5, Width: 2, Cells: whole[:10], Back: whole[:10]})
	before := slices.Clone(whole)
	for _, s := range []impl.Screen{behindCells, twice} {
		for i, ask := range screenAsks() {
			r, want := ask(s), ask(turned(s))
			if fmt.Sprint(r) != fmt.Sprint(want) || !slices.Equal(whole, before) {
				t.Fatalf("call %d in one piece = %v, want %v", i, r, want)
			}
			back := slices.Clone(r.Screen.Grid.Back)
			overwrite(r.Screen.Grid.Cells, markCell)
			if !slices.Equal(r.Screen.Grid.Back, back) || !slices.Equal(whole, before) {
				t.Fatalf("call %d in one piece answers lists that are one", i)
			}
		}
	}
}

func TestNewScreensAreNew(t *testing.T) {
	for _, size := range [][2]int64{{1, 2}, {1, 12}, {6, 2}, {6, 12}} {
		first, second := impl.NewScreen(size[0], size[1]), impl.NewScreen(size[0], size[1])
		want := fmt.Sprint(second)
		spoil(first.Screen)
		if fmt.Sprint(second) != want || fmt.Sprint(impl.NewScreen(size[0], size[1])) != want {
			t.Errorf("answers of NewScreen(%v) share memory", size)
		}
	}
	// So are those that an escape makes: two in one list, and one kept from before.
	reset := todo("\x1bc")
	first, second := impl.DoAll(screenOfSize(3, 9, 2), reset), impl.DoAll(screenOfSize(3, 9, 2), reset)
	spoil(first.Screen)
	if !rightScreen(second, emptyScreen(3, 9)) {
		t.Errorf("answers of a reset share memory: %v", second)
	}
}

// One may go on from an answer as often as one wants: what is done next turns nothing of it.
func TestScreenGoesOnTwice(t *testing.T) {
	asks := screenAsks()
	for _, s := range fewScreens(401) {
		for i, ask := range asks {
			begun := ask(s)
			before := turned(begun.Screen)
			for j, next := range asks {
				one, two := next(begun.Screen), next(begun.Screen)
				if one.Code != two.Code || !sameScreen(one.Screen, two.Screen) || !sameScreen(begun.Screen, before) {
					t.Fatalf("call %d behind call %d of %v answers %v, then %v", j, i, s, one, two)
				}
			}
		}
	}
}

// screenAnswers calls every function of chapter 5 with that screen and number, and tells all answers.
func screenAnswers(s impl.Screen, n int64) string {
	out := fmt.Sprint(impl.ScreenFault(s), impl.NewScreen(n, n), impl.NewScreen(n, 4), impl.NewScreen(4, n), impl.RowText(s, n),
		impl.ResizeScreen(s, n, n), impl.ResizeScreen(s, n, 5), impl.ResizeScreen(s, 2, n), impl.SameShown(s, impl.NewScreen(n, n).Screen))
	for kind := range int64(7) {
		out += fmt.Sprint(impl.DoAction(s, impl.Action{Kind: kind, Char: n}), impl.DoAction(s, goodAction(kind, n)), impl.DoAction(s, impl.Action{Kind: 5, Char: '0', Set: n}))
	}
	for _, c := range "ABCDEFG`dHfJKXLMST@Pmgrsuhl" {
		out += fmt.Sprint(impl.DoAction(s, sequence(c, n)), impl.DoAll(s, []impl.Action{private(c, n, 6), sequence(c, 1, n)}))
	}
	for _, one := range []turn{func(s *impl.Screen) { s.Y = n }, func(s *impl.Screen) { s.X = n }, func(s *impl.Screen) { s.Top = n }, func(s *impl.Screen) { s.Bottom = n }, func(s *impl.Screen) { s.Attr = n },
		func(s *impl.Screen) { s.KeptY, s.KeptX = n, n }, func(s *impl.Screen) { s.Sets = []int64{n, n} }, func(s *impl.Screen) { s.Shift = n }, func(s *impl.Screen) { s.Bells = n }, func(s *impl.Screen) { s.Grid.Rows, s.Grid.Width = n, n }} {
		other := turned(s, one)
		out += fmt.Sprint(impl.ScreenFault(other), impl.DoAll(other, todo("ab\n\t\x1b8\x1b[M\x1b[r")), impl.RowText(other, 0), impl.SameShown(s, other))
	}
	return out
}

// Whatever comes in, from however many callers, in whatever order: nothing panics, and the same call answers the same.
func TestScreensAnswerAtEveryArgument(t *testing.T) {
	screens := allScreens()
	screens = append(screens[:6:6], screens[len(screens)-12:]...)
	numbers := append([]int64{-1, 0, 1, 2, 3, 5, 6, 7, 12, 13, 31, 32, 127, 999, 1000, 55296, 65536}, bigNumbers[:5]...)
	all := make([][]string, 3)
	var wait sync.WaitGroup
	for i := range all {
		wait.Go(func() {
			for _, s := range screens {
				for _, n := range numbers {
					all[i] = append(all[i], screenAnswers(s, n))
				}
			}
		})
	}
	wait.Wait()
	for i, s := range slices.Backward(screens) {
		for j, n := range slices.Backward(numbers) {
			want := screenAnswers(s, n)
			for _, one := range all {
				if one[i*len(numbers)+j] != want {
					t.Fatalf("other answers at %v, %d", s, n)
				}
			}
		}
	}
}

// A screen of which nil and an empty list are Back, Sets, Tabs or Cells answers the same.
func TestNoListsAndNil(t *testing.T) {
	for _, s := range []impl.Screen{screenOfSize(2, 3, 0), {}, {Grid: impl.Grid{Rows: 1, Width: 2}}, turned(screenOfSize(2, 3, 0), func(s *impl.Screen) { s.Tabs = nil }), turned(screenOfSize(2, 3, 0), func(s *impl.Screen) { s.Sets = nil })} {
		other := turned(s)
		other.Grid.Back = []impl.Cell{}
		if len(s.Grid.Cells) == 0 {
			other.Grid.Cells = []impl.Cell{}
		}
		if len(s.Tabs) == 0 {
			other.Tabs = []bool{}
		}
		if len(s.Sets) == 0 {
			other.Sets = []int64{}
		}
		if !impl.SameShown(s, other) || !impl.SameShown(other, s) {
			t.Errorf("SameShown(%v, %v) is false", s, other)
		}
		for _, n := range []int64{-1, 0, 1, 2, 7, 65} {
			if a, b := screenAnswers(s, n), screenAnswers(other, n); a != b {
				t.Fatalf("with nil %s, with empty lists %s", a, b)
			}
		}
	}
}
