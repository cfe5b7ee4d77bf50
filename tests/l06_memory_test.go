package tests

import (
	"bytes"
	"fmt"
	"slices"
	"sync"
	"testing"

	"loop.example/g00523/impl"
)

// roomyVt is a terminal whose lists have room behind them, with the whole of each.
type roomyVt struct {
	vt     impl.Vt
	screen roomyScreen
	params []int64
}

func roomyVtOf(v impl.Vt) roomyVt {
	r := roomyVt{vt: v, screen: roomy(v.Screen)}
	r.vt.Screen = r.screen.screen
	r.vt.Parser.Params, r.params = withRoom(v.Parser.Params, markNumber)
	return r
}

func (r roomyVt) clone() roomyVt {
	return roomyVt{r.vt, r.screen.clone(), slices.Clone(r.params)}
}

func (r roomyVt) same(other roomyVt) bool {
	return r.screen.same(other.screen) && slices.Equal(r.params, other.params)
}

// overwriteAll turns all that the lists of the terminal hold, and the room behind them.
func (r roomyVt) overwriteAll() {
	overwrite(r.params, 5)
	overwrite(r.screen.cells, cell(3, 4))
	overwrite(r.screen.back, cell(5, 6))
	overwrite(r.screen.sets, 9)
	for x := range r.screen.tabs {
		r.screen.tabs[x] = !r.screen.tabs[x]
	}
}

// spoilVt turns all that the lists of an answer hold, and the room behind them.
func spoilVt(v impl.Vt) {
	overwrite(v.Parser.Params, -3)
	spoil(v.Screen)
}

// vtAsks are calls of every function of chapter 6 that answers a terminal of a terminal.
func vtAsks() []func(impl.Vt) impl.VtResult {
	var asks []func(impl.Vt) impl.VtResult
	for _, text := range append([]string{"5", ";", "?", "m", "5;6m", ";7\x1b[8;9", "\x18", "\xac", "\n\n\n\n\n\n\n", "\x1bH\x1b[3g", "\x1bc\x1b[1;2"}, vtTexts...) {
		data := []byte(text)
		asks = append(asks, func(v impl.Vt) impl.VtResult { return impl.WriteVt(v, data) })
	}
	return append(asks,
		func(v impl.Vt) impl.VtResult { return impl.WriteVt(v, make([]byte, 2001)) },
		func(v impl.Vt) impl.VtResult { return impl.ResizeVt(v, v.Screen.Grid.Rows, v.Screen.Grid.Width) },
		func(v impl.Vt) impl.VtResult { return impl.ResizeVt(v, 1, 2) },
		func(v impl.Vt) impl.VtResult { return impl.ResizeVt(v, 6, 12) },
		func(v impl.Vt) impl.VtResult { return impl.ResizeVt(v, 7, 12) },
	)
}

// allVts are some without a fault, and some with each.
func allVts() []impl.Vt {
	var vts []impl.Vt
	for _, v := range manyVts(151) {
		vts = append(vts, v.vt)
	}
	for i, x := range wrongVts() {
		if i%97 == 0 {
			vts = append(vts, x.vt)
		}
	}
	return append(vts, impl.Vt{}, impl.Vt{Parser: parserInParams(false, 1, 2), Screen: screenOfSize(1, 2, 5)})
}

func TestVtsStay(t *testing.T) {
	for _, v := range allVts() {
		given := roomyVtOf(v)
		before := given.clone()
		for i, ask := range vtAsks() {
			ask(given.vt)
			if !given.same(before) {
				t.Fatalf("call %d changed %v", i, v)
			}
		}
		impl.VtFault(given.vt)
		impl.VtText(given.vt)
		impl.SameVts(given.vt, given.vt)
		impl.SameVts(given.vt, emptyVt(6, 12))
		impl.SameVts(emptyVt(6, 12), given.vt)
		if !given.same(before) {
			t.Fatalf("VtFault, VtText or SameVts changed %v", v)
		}
	}
}

func TestWrittenBytesStay(t *testing.T) {
	for _, v := range allVts() {
		for _, text := range vtTexts {
			short, whole := withRoom([]byte(text), byte(250))
			before := slices.Clone(whole)
			r := impl.WriteVt(v, short)
			if !bytes.Equal(whole, before) {
				t.Fatalf("WriteVt(%v) changed its bytes %q", v, text)
			}
			want := fmt.Sprint(r)
			overwrite(whole, 'x')
			if fmt.Sprint(r) != want {
				t.Fatalf("an answer of WriteVt(%v) turned with its bytes %q", v, text)
			}
		}
	}
}

// An answer that is overwritten turns no argument and no other answer; an argument turns no answer.
func TestVtAnswersAreNew(t *testing.T) {
	for _, v := range allVts() {
		for i, ask := range vtAsks() {
			given := roomyVtOf(v)
			before := given.clone()
			first, second := ask(given.vt), ask(given.vt)
			want := fmt.Sprint(first)
			wantVtListsApart(t, first.Vt)
			spoilVt(first.Vt)
			if !given.same(before) {
				t.Fatalf("call %d of %v answers memory of its terminal", i, v)
			}
			given.overwriteAll()
			if fmt.Sprint(second) != want {
				t.Fatalf("an answer of call %d of %v turns with its terminal, or with another answer", i, v)
			}
			if third := ask(v); fmt.Sprint(third) != want {
				t.Fatalf("call %d of %v answers another time %v", i, v, third)
			}
		}
	}
}

// wantVtListsApart asks that no two lists of a terminal share memory: it overwrites them with values that each is asked for.
func wantVtListsApart(t *testing.T, v impl.Vt) {
	t.Helper()
	back := slices.Clone(v.Screen.Grid.Back)
	overwrite(v.Screen.Grid.Cells, markCell)
	if !slices.Equal(v.Screen.Grid.Back, back) {
		t.Fatalf("Back of %v turns with Cells", v)
	}
	overwrite(v.Screen.Grid.Back, cell(-9, -9))
	if slices.Contains(v.Screen.Grid.Cells, cell(-9, -9)) {
		t.Fatalf("Cells of %v turn with Back", v)
	}
	wantApart(t, [][]int64{v.Parser.Params, v.Screen.Sets})
}

// The lists of a terminal may lie in one piece of memory: it is written to as any other.
func TestVtsInOnePiece(t *testing.T) {
	numbers := []int64{1, 2, 3, markNumber, markNumber, markNumber}
	cells := slices.Concat(gridOfSize(4, 3, 0).Cells, gridOfSize(4, 3, 2).Back, []impl.Cell{markCell, markCell, markCell})
	v := impl.Vt{Parser: parserInParams(false, numbers[:2]...), Screen: screenOfGrid(impl.Grid{Rows: 4, Width: 3, Cells: cells[:12], Back: cells[12:18]})}
	v.Screen.Sets = numbers[1:3]
	keptNumbers, keptCells := slices.Clone(numbers), slices.Clone(cells)
	for i, ask := range vtAsks() {
		r, want := ask(v), ask(turnedVt(v))
		if fmt.Sprint(r) != fmt.Sprint(want) {
			t.Fatalf("call %d in one piece = %v, want %v", i, r, want)
		}
		wantVtListsApart(t, r.Vt)
		spoilVt(r.Vt)
		if !slices.Equal(numbers, keptNumbers) || !slices.Equal(cells, keptCells) {
			t.Fatalf("call %d changed a terminal in one piece, or answers its memory", i)
		}
	}
}

func TestNewVtsAreNew(t *testing.T) {
	for _, size := range [][2]int64{{1, 2}, {1, 12}, {6, 2}, {6, 12}} {
		first, second := impl.NewVt(size[0], size[1]), impl.NewVt(size[0], size[1])
		want := fmt.Sprint(second)
		spoilVt(first.Vt)
		if fmt.Sprint(second) != want || fmt.Sprint(impl.NewVt(size[0], size[1])) != want {
			t.Errorf("answers of NewVt(%v) share memory", size)
		}
	}
}

// One may go on from an answer as often as one wants: what is written next turns nothing of it.
func TestVtGoesOnTwice(t *testing.T) {
	asks := vtAsks()
	for _, v := range manyVts(401) {
		for i, ask := range asks {
			begun := ask(v.vt)
			before := turnedVt(begun.Vt)
			for j, next := range asks {
				one, two := next(begun.Vt), next(begun.Vt)
				if one.Code != two.Code || !sameVt(one.Vt, two.Vt) || !sameVt(begun.Vt, before) {
					t.Fatalf("call %d behind call %d of %v answers %v, then %v", j, i, v.vt, one, two)
				}
			}
		}
	}
}

// vtAnswers calls every function of chapter 6 with that terminal and number, and tells all answers.
func vtAnswers(v impl.Vt, n int64) string {
	data := bytes.Repeat([]byte{byte(n)}, int(uint64(n)%7))
	out := fmt.Sprint(impl.VtFault(v), impl.NewVt(n, n), impl.NewVt(n, 4), impl.NewVt(4, n), impl.WriteVt(v, data), impl.WriteVt(v, bytes.Repeat([]byte("\x1b[1\n;2\xc3m"), 20)),
		impl.ResizeVt(v, n, n), impl.ResizeVt(v, n, 5), impl.ResizeVt(v, 2, n), impl.VtText(v), impl.SameVts(v, impl.NewVt(n, n).Vt), impl.SameVts(v, v))
	for _, one := range []vtTurn{func(v *impl.Vt) { v.Decoder.Left = n }, func(v *impl.Vt) { v.Decoder.Low = n }, func(v *impl.Vt) { v.Decoder.Value = n }, func(v *impl.Vt) { v.Parser.Mode = n }, func(v *impl.Vt) { v.Parser.Set = n },
		func(v *impl.Vt) { v.Parser = parserInParams(true, n, n) }, func(v *impl.Vt) { v.Screen.Y, v.Screen.X = n, n }, func(v *impl.Vt) { v.Screen.Top = n }, func(v *impl.Vt) { v.Screen.Sets = []int64{n, 1} },
		func(v *impl.Vt) { v.Screen.Grid.Rows = n }, func(v *impl.Vt) { v.Screen.Grid.Width = n }} {
		other := turnedVt(v, one)
		out += fmt.Sprint(impl.VtFault(other), impl.WriteVt(other, data), impl.WriteVt(other, []byte("5\xa4m\x1b[3;\t\xac\xe2")), impl.ResizeVt(other, 2, 3), impl.VtText(other), impl.SameVts(v, other))
	}
	return out
}

// Whatever comes in, from however many callers, in whatever order: nothing panics, and the same call answers the same.
func TestVtsAnswerAtEveryArgument(t *testing.T) {
	vts := allVts()
	vts = slices.Concat(vts[:12], vts[len(vts)-12:])
	numbers := append([]int64{-1, 0, 1, 2, 3, 5, 6, 7, 12, 13, 27, 128, 130, 195, 999, 1000, 2048}, bigNumbers[:5]...)
	all := make([][]string, 3)
	var wait sync.WaitGroup
	for i := range all {
		wait.Go(func() {
			for _, v := range vts {
				for _, n := range numbers {
					all[i] = append(all[i], vtAnswers(v, n))
				}
			}
		})
	}
	wait.Wait()
	for i, v := range slices.Backward(vts) {
		for j, n := range slices.Backward(numbers) {
			want := vtAnswers(v, n)
			for _, one := range all {
				if one[i*len(numbers)+j] != want {
					t.Fatalf("other answers at %v, %d", v, n)
				}
			}
		}
	}
}

// A terminal of which nil and an empty list are Params, Back, Sets, Tabs or Cells answers the same.
func TestVtsOfNoListsAndNil(t *testing.T) {
	for _, v := range []impl.Vt{emptyVt(2, 3), {}, {Parser: parserInEscape(), Screen: screenOfSize(2, 3, 0)}, {Parser: impl.Parser{Mode: 2}, Screen: screenOfSize(1, 2, 0)}, {Screen: impl.Screen{Grid: impl.Grid{Rows: 1, Width: 2}}}} {
		other := turnedVt(v)
		v.Parser.Params, other.Parser.Params = nil, []int64{}
		other.Screen.Grid.Back = []impl.Cell{}
		if len(v.Screen.Grid.Cells) == 0 {
			other.Screen.Grid.Cells, other.Screen.Tabs, other.Screen.Sets = []impl.Cell{}, []bool{}, []int64{}
		}
		if !impl.SameVts(v, other) || !impl.SameVts(other, v) {
			t.Errorf("SameVts(%v, %v) is false", v, other)
		}
		for _, n := range []int64{-1, 0, 1, 2, 7, 65} {
			if a, b := vtAnswers(v, n), vtAnswers(other, n); a != b {
				t.Fatalf("with nil %s, with empty lists %s", a, b)
			}
		}
	}
}
