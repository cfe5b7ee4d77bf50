package tests

import (
	"fmt"
	"math/rand/v2"
	"slices"
	"testing"

	"loop.example/g00523/impl"
)

// sequence is an action with numbers.
func sequence(final rune, params ...int64) impl.Action {
	return impl.Action{Kind: 4, Char: int64(final), Params: params}
}

// private is such an action that is Private.
func private(final rune, params ...int64) impl.Action {
	a := sequence(final, params...)
	a.Private = true
	return a
}

// Every end of a sequence, also those that are not named, Private or not, with the numbers that any of them knows.
func TestEverySequence(t *testing.T) {
	var actions []impl.Action
	for c := rune(64); c < 127; c++ {
		for _, params := range [][]int64{{0}, {1}, {2}, {3}, {4}, {6}, {7}, {999}, {0, 0}, {2, 3}, {5, 4}, {4, 7, 6, 22, 35, 999}} {
			actions = append(actions, sequence(c, params...), private(c, params...))
		}
	}
	wantModel(t, fewScreens(97), actions)
}

// Every named one, with no number, one, as many as there are, one more, and the greatest.
func TestEveryNamedSequence(t *testing.T) {
	for _, c := range "ABCDEFG`dHfJKXLMST@Pmgrsuhl" {
		var actions []impl.Action
		for _, n := range []int64{0, 1, 2, 3, 4, 5, 6, 7, 9, 10, 11, 12, 13, 14, 999} {
			actions = append(actions, sequence(c, n))
		}
		wantModel(t, fewScreens(7), actions)
	}
}

func TestEveryPairOfNumbers(t *testing.T) {
	for _, c := range "Hfr" {
		var actions []impl.Action
		for _, first := range []int64{0, 1, 2, 3, 5, 6, 7, 999} {
			for _, second := range []int64{0, 1, 2, 3, 5, 6, 7, 12, 13, 999} {
				actions = append(actions, sequence(c, first, second), sequence(c, first, second, 1))
			}
		}
		wantModel(t, fewScreens(41), actions)
	}
}

// Promise 6: who goes to a place is there, as far as it is in the grid, or, with Origin, in the region.
func TestWhoGoesIsThere(t *testing.T) {
	for _, s := range fewScreens(5) {
		first, last := int64(0), s.Grid.Rows-1
		if s.Origin {
			first, last = s.Top, s.Bottom
		}
		for _, y := range []int64{1, 2, 3, 4, 5, 6, 7, 999} {
			for _, x := range []int64{1, 2, 3, 6, 11, 12, 13, 999} {
				want := s
				want.Y, want.X, want.Wrap = min(first+y-1, last), min(x, s.Grid.Width)-1, false
				if r := impl.DoAction(s, sequence('H', y, x)); !rightScreen(r, want) {
					t.Fatalf("to %d, %d on %v = %v", y, x, s, r)
				}
				if r := impl.DoAll(s, []impl.Action{sequence('G', x), sequence('d', y)}); !rightScreen(r, want) {
					t.Fatalf("to column %d, row %d on %v = %v", x, y, s, r)
				}
			}
		}
	}
}

func TestMovesByHand(t *testing.T) {
	const six = "ab./cd./ef./gh./ij./kl."
	var rows []shownRow
	for _, x := range []struct{ text, place string }{
		{"\x1b[3;2H\x1b[A", "1,1"}, {"\x1b[3;2H\x1b[0A", "1,1"}, {"\x1b[3;2H\x1b[1A", "1,1"}, {"\x1b[3;2H\x1b[2A", "0,1"}, {"\x1b[3;2H\x1b[3A", "0,1"}, {"\x1b[3;2H\x1b[999A", "0,1"}, {"\x1b[3;2H\x1b[1;9A", "1,1"},
		{"\x1b[3;2H\x1b[B", "3,1"}, {"\x1b[3;2H\x1b[0B", "3,1"}, {"\x1b[3;2H\x1b[3B", "5,1"}, {"\x1b[3;2H\x1b[4B", "5,1"}, {"\x1b[3;2H\x1b[999B", "5,1"},
		{"\x1b[3;2H\x1b[F", "1,0"}, {"\x1b[3;2H\x1b[2F", "0,0"}, {"\x1b[3;2H\x1b[999F", "0,0"}, {"\x1b[3;2H\x1b[E", "3,0"}, {"\x1b[3;2H\x1b[2E", "4,0"}, {"\x1b[3;2H\x1b[999E", "5,0"},
		{"\x1b[3;2H\x1b[C", "2,2"}, {"\x1b[3;2H\x1b[0C", "2,2"}, {"\x1b[3;2H\x1b[2C", "2,2"}, {"\x1b[3;1H\x1b[2C", "2,2"}, {"\x1b[3;1H\x1b[999C", "2,2"},
		{"\x1b[3;2H\x1b[D", "2,0"}, {"\x1b[3;2H\x1b[0D", "2,0"}, {"\x1b[3;3H\x1b[2D", "2,0"}, {"\x1b[3;3H\x1b[D", "2,1"}, {"\x1b[3;3H\x1b[999D", "2,0"},
		{"\x1b[3;2H\x1b[G", "2,0"}, {"\x1b[3;2H\x1b[0G", "2,0"}, {"\x1b[3;2H\x1b[3G", "2,2"}, {"\x1b[3;2H\x1b[4G", "2,2"}, {"\x1b[3;2H\x1b[999G", "2,2"}, {"\x1b[3;2H\x1b[3`", "2,2"}, {"\x1b[3;2H\x1b[`", "2,0"}, {"\x1b[3;2H\x1b[999`", "2,2"},
		{"\x1b[3;2H\x1b[d", "0,1"}, {"\x1b[3;2H\x1b[0d", "0,1"}, {"\x1b[3;2H\x1b[5d", "4,1"}, {"\x1b[3;2H\x1b[6d", "5,1"}, {"\x1b[3;2H\x1b[7d", "5,1"}, {"\x1b[3;2H\x1b[999d", "5,1"}, {"\x1b[3;2H\x1b[5;1d", "4,1"},
		{"\x1b[3;2H\x1b[H", "0,0"}, {"\x1b[3;2H\x1b[0;0H", "0,0"}, {"\x1b[3;2H\x1b[4H", "3,0"}, {"\x1b[3;2H\x1b[4;0H", "3,0"}, {"\x1b[3;2H\x1b[4;3f", "3,2"}, {"\x1b[3;2H\x1b[;3f", "0,2"}, {"\x1b[3;2H\x1b[4f", "3,0"}, {"\x1b[999;999H", "5,2"}, {"\x1b[7;4f", "5,2"},
		// Regions of some rows stop one who is in them, or comes from the other side.
		{"\x1b[3;4r\x1b[3;2H\x1b[A", "2,1"}, {"\x1b[3;4r\x1b[4;2H\x1b[9A", "2,1"}, {"\x1b[3;4r\x1b[6;2H\x1b[9A", "2,1"}, {"\x1b[3;4r\x1b[2;2H\x1b[9A", "0,1"}, {"\x1b[3;4r\x1b[2;2H\x1b[1A", "0,1"},
		{"\x1b[3;4r\x1b[4;2H\x1b[B", "3,1"}, {"\x1b[3;4r\x1b[3;2H\x1b[9B", "3,1"}, {"\x1b[3;4r\x1b[1;2H\x1b[9B", "3,1"}, {"\x1b[3;4r\x1b[5;2H\x1b[9B", "5,1"}, {"\x1b[3;4r\x1b[6;2H\x1b[9B", "5,1"},
		{"\x1b[3;4r\x1b[6;2H\x1b[9F", "2,0"}, {"\x1b[3;4r\x1b[2;2H\x1b[9F", "0,0"}, {"\x1b[3;4r\x1b[1;2H\x1b[9E", "3,0"}, {"\x1b[3;4r\x1b[5;2H\x1b[9E", "5,0"},
		{"\x1b[3;4r\x1b[6;2H", "5,1"}, {"\x1b[3;4r\x1b[6d", "5,0"}, {"\x1b[3;4r\x1b[1d", "0,0"},
		// With Origin rows are counted from Top, and none is left.
		{"\x1b[3;4r\x1b[?6h", "2,0"}, {"\x1b[3;4r\x1b[?6h\x1b[2;2H", "3,1"}, {"\x1b[3;4r\x1b[?6h\x1b[3;2H", "3,1"}, {"\x1b[3;4r\x1b[?6h\x1b[999;2f", "3,1"}, {"\x1b[3;4r\x1b[?6h\x1b[2d", "3,0"}, {"\x1b[3;4r\x1b[?6h\x1b[9d\x1b[d", "2,0"},
		{"\x1b[3;4r\x1b[?6h\x1b[9A", "2,0"}, {"\x1b[3;4r\x1b[?6h\x1b[9B", "3,0"}, {"\x1b[3;4r\x1b[?6h\x1b[2;2H\x1b[?6l", "0,0"}, {"\x1b[3;4r\x1b[?6l\x1b[2;2H", "1,1"},
	} {
		rows = append(rows, shownRow{six, x.text, six + " " + x.place})
	}
	wantShown(t, rows)
}

func TestRegionsByHand(t *testing.T) {
	for _, x := range []struct {
		text              string
		top, bottom, y, x int64
	}{
		{"\x1b[2;3H\x1b[2;4r", 1, 3, 0, 0},
		{"\x1b[2;3H\x1b[r", 0, 5, 0, 0},
		{"\x1b[2;3H\x1b[0r", 0, 5, 0, 0},
		{"\x1b[2;3H\x1b[0;0r", 0, 5, 0, 0},
		{"\x1b[2;3H\x1b[;2r", 0, 1, 0, 0},
		{"\x1b[2;3H\x1b[3r", 2, 5, 0, 0},
		{"\x1b[2;3H\x1b[3;0r", 2, 5, 0, 0},
		{"\x1b[2;3H\x1b[5;6r", 4, 5, 0, 0},
		{"\x1b[2;3H\x1b[1;6r", 0, 5, 0, 0},
		{"\x1b[2;3H\x1b[2;4;1;1r", 1, 3, 0, 0},
		{"\x1b[2;4r\x1b[2;3H\x1b[4;2r", 1, 3, 1, 2},
		{"\x1b[2;4r\x1b[2;3H\x1b[3;3r", 1, 3, 1, 2},
		{"\x1b[2;4r\x1b[2;3H\x1b[6r", 1, 3, 1, 2},
		{"\x1b[2;4r\x1b[2;3H\x1b[1;7r", 1, 3, 1, 2},
		{"\x1b[2;4r\x1b[2;3H\x1b[7;8r", 1, 3, 1, 2},
		{"\x1b[2;4r\x1b[2;3H\x1b[999r", 1, 3, 1, 2},
		{"\x1b[2;4r\x1b[2;3H\x1b[2;999r", 1, 3, 1, 2},
		{"\x1b[2;4r\x1b[2;3H\x1b[?1;2r", 1, 3, 1, 2},
		{"\x1b[2;4r\x1b[2;3H\x1b[r", 0, 5, 0, 0},
		{"\x1b[?6h\x1b[2;3H\x1b[2;4r", 1, 3, 1, 0},
		{"\x1b[?6h\x1b[2;4r\x1b[3;3H\x1b[4;6r", 3, 5, 3, 0},
		{"\x1b[?6h\x1b[2;4r\x1b[3;3H\x1b[6;4r", 1, 3, 3, 2},
	} {
		s := behind(t, screenOfSize(6, 4, 0), x.text)
		if s.Top != x.top || s.Bottom != x.bottom || s.Y != x.y || s.X != x.x {
			t.Errorf("%q: region %d to %d, place %d,%d, want %v", x.text, s.Top, s.Bottom, s.Y, s.X, x)
		}
	}
	// One row is no region that could be chosen.
	one := screenOfSize(1, 3, 0)
	one.X = 1
	for _, params := range [][]int64{{0}, {1}, {0, 0}, {1, 1}, {1, 2}, {0, 2}} {
		if r := impl.DoAction(one, sequence('r', params...)); !rightScreen(r, one) {
			t.Errorf("region %v of one row: %v", params, r)
		}
	}
}

func TestEraseByHand(t *testing.T) {
	const full = "abcd/efgh/ijkl"
	wantShown(t, []shownRow{
		{full, "\x1b[2;3H\x1b[J", "abcd/ef../.... 1,2"},
		{full, "\x1b[2;3H\x1b[0J", "abcd/ef../.... 1,2"},
		{full, "\x1b[2;3H\x1b[1J", "..../...h/ijkl 1,2"},
		{full, "\x1b[2;3H\x1b[2J", "..../..../.... 1,2"},
		{full, "\x1b[2;3H\x1b[3J", full + " 1,2"},
		{full, "\x1b[2;3H\x1b[999J", full + " 1,2"},
		{full, "\x1b[2;3H\x1b[3;0J", full + " 1,2"},
		{full, "\x1b[2;3H\x1b[0;2J", "abcd/ef../.... 1,2"},
		{full, "\x1b[H\x1b[1J", ".bcd/efgh/ijkl 0,0"},
		{full, "\x1b[3;4H\x1b[J", "abcd/efgh/ijk. 2,3"},
		{full, "\x1b[2;3H\x1b[K", "abcd/ef../ijkl 1,2"},
		{full, "\x1b[2;3H\x1b[1K", "abcd/...h/ijkl 1,2"},
		{full, "\x1b[2;3H\x1b[2K", "abcd/..../ijkl 1,2"},
		{full, "\x1b[2;3H\x1b[3K", full + " 1,2"},
		{full, "\x1b[2;4H\x1b[K", "abcd/efg./ijkl 1,3"},
		{full, "\x1b[2;1H\x1b[1K", "abcd/.fgh/ijkl 1,0"},
		{full, "\x1b[2;2H\x1b[X", "abcd/e.gh/ijkl 1,1"},
		{full, "\x1b[2;2H\x1b[0X", "abcd/e.gh/ijkl 1,1"},
		{full, "\x1b[2;2H\x1b[2X", "abcd/e..h/ijkl 1,1"},
		{full, "\x1b[2;2H\x1b[3X", "abcd/e.../ijkl 1,1"},
		{full, "\x1b[2;2H\x1b[4X", "abcd/e.../ijkl 1,1"},
		{full, "\x1b[2;2H\x1b[999X", "abcd/e.../ijkl 1,1"},
		{full, "\x1b[2;2H\x1b[?J\x1b[?K\x1b[?X", full + " 1,1"},
		{full, "\x1b[2;3H\x1b[7m\x1b[J", "abcd/ef__/____ 1,2"},
		{full, "\x1b[2;3H\x1b[7m\x1b[1K", "abcd/___h/ijkl 1,2"},
		{full, "\x1b[2;3H\x1b[7m\x1b[X", "abcd/ef_h/ijkl 1,2"},
		{full, "\x1b[2;3r\x1b[?6h\x1b[J", "abcd/..../.... 1,0"},
		{full, "\x1b[2;3r\x1b[2J", "..../..../.... 0,0"},
	})
}

func TestScrollsByHand(t *testing.T) {
	const full = "ab/cd/ef/gh"
	wantShown(t, []shownRow{
		{full, "\x1b[2d\x1b[L", "ab/../cd/ef 1,0"},
		{full, "\x1b[2d\x1b[0L", "ab/../cd/ef 1,0"},
		{full, "\x1b[2d\x1b[2L", "ab/../../cd 1,0"},
		{full, "\x1b[2d\x1b[3L", "ab/../../.. 1,0"},
		{full, "\x1b[2d\x1b[999L", "ab/../../.. 1,0"},
		{full, "\x1b[2d\x1b[M", "ab/ef/gh/.. 1,0"},
		{full, "\x1b[2d\x1b[0M", "ab/ef/gh/.. 1,0"},
		{full, "\x1b[2d\x1b[2M", "ab/gh/../.. 1,0"},
		{full, "\x1b[2d\x1b[999M", "ab/../../.. 1,0"},
		// Nothing goes to Back of what is taken out, even at row 0, and what is there stays.
		{full, "\x1b[M", "cd/ef/gh/.. 0,0"},
		{full, "\x1b[999M", "../../../.. 0,0"},
		{"xy|" + full, "\x1b[2M", "xy|ef/gh/../.. 0,0"},
		{"xy|" + full, "\x1b[L", "xy|../ab/cd/ef 0,0"},
		{full, "\x1b[4d\x1b[L", "ab/cd/ef/.. 3,0"},
		{full, "\x1b[4d\x1b[M", "ab/cd/ef/.. 3,0"},
		{full, "\x1b[2;3r\x1b[2;2H\x1b[L", "ab/../cd/gh 1,1"},
		{full, "\x1b[2;3r\x1b[2;2H\x1b[M", "ab/ef/../gh 1,1"},
		{full, "\x1b[2;3r\x1b[3;2H\x1b[M", "ab/cd/../gh 2,1"},
		{full, "\x1b[2;3r\x1b[1;2H\x1b[M", full + " 0,1"},
		{full, "\x1b[2;3r\x1b[1;2H\x1b[L", full + " 0,1"},
		{full, "\x1b[2;3r\x1b[4;2H\x1b[M", full + " 3,1"},
		{full, "\x1b[2;3r\x1b[4;2H\x1b[L", full + " 3,1"},
		{full, "\x1b[S", "ab|cd/ef/gh/.. 0,0"},
		{full, "\x1b[0S", "ab|cd/ef/gh/.. 0,0"},
		{full, "\x1b[3S", "ab/cd/ef|gh/../../.. 0,0"},
		{full, "\x1b[4S", "ab/cd/ef/gh|../../../.. 0,0"},
		{full, "\x1b[999S", "ab/cd/ef/gh|../../../.. 0,0"},
		{"1./2./3.|" + full, "\x1b[999S", "3./ab/cd/ef/gh|../../../.. 0,0"},
		{full, "\x1b[T", "../ab/cd/ef 0,0"},
		{full, "\x1b[3T", "../../../ab 0,0"},
		{"xy|" + full, "\x1b[999T", "xy|../../../.. 0,0"},
		{full, "\x1b[2;3r\x1b[4;2H\x1b[S", "ab/ef/../gh 3,1"},
		{full, "\x1b[2;3r\x1b[9S", "ab/../../gh 0,0"},
		{full, "\x1b[2;3r\x1b[T", "ab/../cd/gh 0,0"},
		{full, "\x1b[1;3r\x1b[2S", "ab/cd|ef/../../gh 0,0"},
		{full, "\x1b[1;3r\x1b[9S", "ab/cd/ef|../../../gh 0,0"},
		{full, "\x1b[34m\x1b[S", "ab|cd/ef/gh/__ 0,0"},
		{full, "\x1b[34m\x1b[T", "__/ab/cd/ef 0,0"},
		{full, "\x1b[34m\x1b[2d\x1b[M", "ab/ef/gh/__ 1,0"},
		{full, "\x1b[34m\x1b[2d\x1b[L", "ab/__/cd/ef 1,0"},
		{full, "\x1b[?L\x1b[?M\x1b[?S\x1b[?T", full + " 0,0"},
		{"ab", "\x1b[M", ".. 0,0"},
		{"ab", "\x1b[S", "ab|.. 0,0"},
		{"ab", "\x1b[L", ".. 0,0"},
	})
}

func TestShiftsByHand(t *testing.T) {
	const full = "abcd/efgh"
	wantShown(t, []shownRow{
		{full, "\x1b[2G\x1b[@", "a.bc/efgh 0,1"},
		{full, "\x1b[2G\x1b[0@", "a.bc/efgh 0,1"},
		{full, "\x1b[2G\x1b[2@", "a..b/efgh 0,1"},
		{full, "\x1b[2G\x1b[3@", "a.../efgh 0,1"},
		{full, "\x1b[2G\x1b[999@", "a.../efgh 0,1"},
		{full, "\x1b[4G\x1b[@", "abc./efgh 0,3"},
		{full, "\x1b[2G\x1b[P", "acd./efgh 0,1"},
		{full, "\x1b[2G\x1b[0P", "acd./efgh 0,1"},
		{full, "\x1b[2G\x1b[2P", "ad../efgh 0,1"},
		{full, "\x1b[2G\x1b[999P", "a.../efgh 0,1"},
		{full, "\x1b[4G\x1b[P", "abc./efgh 0,3"},
		{full, "\x1b[P", "bcd./efgh 0,0"},
		{full, "\x1b[@", ".abc/efgh 0,0"},
		{full, "\x1b[1m\x1b[2;2H\x1b[2@", "abcd/e__f 1,1"},
		{full, "\x1b[1m\x1b[2;2H\x1b[2P", "abcd/eh__ 1,1"},
		{full, "\x1b[?@\x1b[?P", full + " 0,0"},
		{"abcdefghijkl", "\x1b[13@", "............ 0,0"},
		{"abcdefghijkl", "\x1b[11@", "...........a 0,0"},
		{"abcdefghijkl", "\x1b[11P", "l........... 0,0"},
	})
}

func TestAttrsByHand(t *testing.T) {
	for _, x := range []struct {
		text string
		want int64
	}{
		{"", 0}, {"\x1b[m", 0}, {"\x1b[1m", 8}, {"\x1b[7m", 16}, {"\x1b[1;7m", 24}, {"\x1b[30m", 0}, {"\x1b[31m", 1}, {"\x1b[37m", 7}, {"\x1b[37;1;7m", 31},
		{"\x1b[37;1;7m\x1b[m", 0}, {"\x1b[37;1;7m\x1b[22m", 23}, {"\x1b[37;1;7m\x1b[27m", 15}, {"\x1b[37;1;7m\x1b[39m", 24}, {"\x1b[37;1;7m\x1b[32m", 26}, {"\x1b[37;1;7m\x1b[30m", 24},
		{"\x1b[37;1;7m\x1b[1m", 31}, {"\x1b[22m", 0}, {"\x1b[27m", 0}, {"\x1b[39m", 0}, {"\x1b[1;0;7m", 16}, {"\x1b[31;32;33m", 3}, {"\x1b[1;22;1;22m", 0}, {"\x1b[31;m", 0},
		{"\x1b[37;1m\x1b[2;3;4;5;6;8m\x1b[9;21;23;29;38;40m\x1b[47;90;97;999m", 15}, {"\x1b[37;1m\x1b[?m\x1b[?0m\x1b[?7m", 15},
	} {
		s := behind(t, emptyScreen(2, 3), x.text)
		if s.Attr != x.want {
			t.Errorf("%q: Attr is %d, want %d", x.text, s.Attr, x.want)
		}
		if c := behind(t, s, "x").Grid.Cells[0]; c != cell('x', x.want) {
			t.Errorf("%q: printed %v", x.text, c)
		}
	}
	for attr := range int64(32) {
		for n := range int64(1000) {
			s := emptyScreen(1, 2)
			s.Attr = attr
			if r := impl.DoAction(s, sequence('m', n)); r.Screen.Attr != attrBehind(attr, n) || r.Code != impl.OK {
				t.Fatalf("%d on Attr %d = %d", n, attr, r.Screen.Attr)
			}
		}
	}
}

func TestModesByHand(t *testing.T) {
	for _, x := range []struct {
		text                     string
		origin, autoWrap, insert bool
	}{
		{"", false, true, false}, {"\x1b[?6h", true, true, false}, {"\x1b[?7l", false, false, false}, {"\x1b[4h", false, true, true},
		{"\x1b[?6;7l", false, false, false}, {"\x1b[?7l\x1b[?6;7h", true, true, false}, {"\x1b[?7l\x1b[?7;6h", true, true, false}, {"\x1b[?6h\x1b[?1;6;25l", false, true, false},
		{"\x1b[6h", false, true, false}, {"\x1b[7l", false, true, false}, {"\x1b[?4h", false, true, false}, {"\x1b[4h\x1b[4l", false, true, false}, {"\x1b[4h\x1b[?4l", false, true, true},
		{"\x1b[20;4h", false, true, true}, {"\x1b[4;20h\x1b[20;4l", false, true, false}, {"\x1b[0h\x1b[1h\x1b[999h\x1b[3h\x1b[5h", false, true, false}, {"\x1b[?0l\x1b[?5h\x1b[?8h\x1b[?999l", false, true, false},
		{"\x1b[?6h\x1b[?7l\x1b[4h\x1b[?6h\x1b[?7l\x1b[4h", true, false, true}, {"\x1b[?6h\x1b[?7l\x1b[4h\x1bc", false, true, false}, {"\x1b[?6i\x1b[?7g\x1b[4i", false, true, false},
	} {
		s := behind(t, emptyScreen(3, 3), x.text)
		if s.Origin != x.origin || s.AutoWrap != x.autoWrap || s.Insert != x.insert {
			t.Errorf("%q: Origin %v, AutoWrap %v, Insert %v", x.text, s.Origin, s.AutoWrap, s.Insert)
		}
	}
	// 6 leads home wherever it stands among the numbers; other numbers lead nowhere.
	s := behind(t, screenOfSize(6, 4, 0), "\x1b[3;5r\x1b[6;3H")
	for _, x := range []struct {
		action impl.Action
		y, x   int64
	}{
		{private('h', 6), 2, 0}, {private('l', 6), 0, 0}, {private('h', 1, 2, 6), 2, 0}, {private('l', 7, 6), 0, 0}, {private('h', 7), 5, 2}, {private('l', 7, 5, 0), 5, 2}, {sequence('h', 4, 6), 5, 2},
	} {
		if r := impl.DoAction(s, x.action).Screen; r.Y != x.y || r.X != x.x {
			t.Errorf("%v leads to %d,%d, want %d,%d", x.action, r.Y, r.X, x.y, x.x)
		}
	}
}

// Promise 6: what was kept comes again, whatever is done between but to keep something else, or to begin anew.
func TestKeptComesAgain(t *testing.T) {
	keeps := []string{"\x1b7", "\x1b[s", "\x1b[5s"}
	comes := []string{"\x1b8", "\x1b[u", "\x1b[3;4u"}
	between := []string{"", "abc", "\x1b[5;6H", "\x1b[37;1;7m", "\x1b[m\n\n\n", "\x1b[2J\x1b[1;2r\x1b[m", "\x1b[?7l\x1b[4hxyz", "\x1b[?7;4l\x1bM\x1bM", "\x0e\x1b(0\x1b[31mq\t\r\b\x1b[A", "\x1b[?s\x1b[?u\x1b[?6l"}
	for i, s := range fewScreens(3) {
		keep, come := keeps[i%3], comes[i/3%3]
		kept := behind(t, s, keep)
		want := s
		want.KeptY, want.KeptX, want.KeptAttr = s.Y, s.X, s.Attr
		if !sameScreen(kept, want) {
			t.Fatalf("%q on %v = %v", keep, s, kept)
		}
		for _, text := range between {
			ahead := behind(t, kept, text)
			want := ahead
			want.Y, want.X, want.Attr, want.Wrap = s.Y, s.X, s.Attr, false
			if want.Origin && (want.Y < want.Top || want.Y > want.Bottom) {
				want.Y = min(max(want.Y, want.Top), want.Bottom)
			}
			if got := behind(t, ahead, come); !sameScreen(got, want) {
				t.Fatalf("%q then %q then %q on %v = %v, want %v", keep, text, come, s, got, want)
			}
		}
	}
}

func TestKeptByHand(t *testing.T) {
	const full = "abc/def/ghi/jkl"
	wantShown(t, []shownRow{
		{full, "\x1b[3;2H\x1b8", full + " 0,0"},
		{full, "\x1b[3;2H\x1b7\x1b[H\x1b8", full + " 2,1"},
		{full, "\x1b[3;2H\x1b[s\x1b[H\x1b[u", full + " 2,1"},
		{full, "\x1b[3;2H\x1b7\x1b[H\x1b[u", full + " 2,1"},
		{full, "\x1b[3;2H\x1b[s\x1b[H\x1b8\x1b[H\x1b8", full + " 2,1"},
		{full, "\x1b[3;2H\x1b7\x1bc\x1b8", ".../.../.../... 0,0"},
		{full, "\x1b[4;2H\x1b7\x1b[1;2r\x1b8", full + " 3,1"},
		{full, "\x1b[4;2H\x1b7\x1b[1;2r\x1b[?6h\x1b8", full + " 1,1"},
		{full, "\x1b[1;2H\x1b7\x1b[3;4r\x1b[?6h\x1b[9d\x1b8", full + " 2,1"},
		{full, "xyz\x1b7\x1b[2d\x1b8", "xyz/def/ghi/jkl 0,2"},
		{full, "\x1b[31m\x1b7\x1b[m\x1b8\x1b[K", "___/def/ghi/jkl 0,0"},
	})
	// A screen that is smaller since: what was kept stays, and one goes as far as there is.
	s := behind(t, screenOfSize(6, 12, 0), "\x1b[6;12H\x1b[33m\x1b7\x1b[m\x1b[H")
	small := impl.ResizeScreen(s, 2, 3).Screen
	if small.KeptY != 5 || small.KeptX != 11 || small.KeptAttr != 3 {
		t.Errorf("kept are %d, %d, %d", small.KeptY, small.KeptX, small.KeptAttr)
	}
	for _, come := range []string{"\x1b8", "\x1b[u"} {
		if r := behind(t, small, come); r.Y != 1 || r.X != 2 || r.Attr != 3 || r.KeptY != 5 || r.KeptX != 11 {
			t.Errorf("%q leads to %d,%d with %d", come, r.Y, r.X, r.Attr)
		}
		again := impl.ResizeScreen(small, 6, 12).Screen
		if r := behind(t, again, come); r.Y != 5 || r.X != 11 || r.Attr != 3 {
			t.Errorf("%q on the great one leads to %d,%d with %d", come, r.Y, r.X, r.Attr)
		}
	}
}

// anyAction is one of any kind, without a fault; the named ones come more often.
func anyAction(r *rand.Rand) impl.Action {
	number := func() int64 {
		return []int64{0, 0, 1, 1, 2, 3, 4, 5, 6, 7, 8, 12, 13, 22, 27, r.Int64N(40), 999, r.Int64N(1000)}[r.IntN(18)]
	}
	pick := func(text string) int64 { return int64(text[r.IntN(len(text))]) }
	switch r.IntN(9) {
	case 0, 1:
		return impl.Action{Kind: 1, Char: []int64{32 + r.Int64N(95), 8364, 128, 65535}[r.IntN(4)]}
	case 2:
		return impl.Action{Kind: 2, Char: pick("\a\b\t\n\v\f\r\x0e\x0f\x00\x1f\n\t")}
	case 3:
		return impl.Action{Kind: 3, Char: pick("DEHM78DEHM78cZ~0")}
	case 4:
		return impl.Action{Kind: 5, Char: pick("B0UBAx"), Set: 1 + r.Int64N(2)}
	case 5:
		return private(rune(pick("hlhlm")), []int64{6, 7, 6, 7, number()}[r.IntN(5)], []int64{6, 7, 5}[r.IntN(3)])
	}
	var params []int64
	for range 1 + r.IntN(3) {
		params = append(params, number())
	}
	return sequence(rune(pick("ABCDEFG`dHfJKXLMST@PmgrsuhlHHrrmz")), params...)
}

// Promise 6: whatever is done on a screen it has no fault; and it is what the document says, one by one and at once.
func TestWhateverIsDone(t *testing.T) {
	r := rand.New(rand.NewPCG(5, 23))
	for round := range 150 {
		start := screenOfSize(1+r.Int64N(6), 2+r.Int64N(11), r.Int64N(6))
		s, want := start, start
		var list []impl.Action
		for step := range 120 {
			a := anyAction(r)
			list = append(list, a)
			want = modelled(want, a)
			if step%40 == 39 {
				s, want = resizedBoth(t, s, list, want, 1+r.Int64N(6), 2+r.Int64N(11))
				list = nil
				continue
			}
			if got := impl.DoAction(impl.DoAll(s, list[:len(list)-1]).Screen, a); !rightScreen(got, want) {
				t.Fatalf("round %d: %s on %v = %v, want %v", round, actionsAll(list), s, got, want)
			}
		}
	}
}

// resizedBoth is what a list makes of a screen, and what it has to be, both of another size.
func resizedBoth(t *testing.T, s impl.Screen, list []impl.Action, want impl.Screen, rows, width int64) (impl.Screen, impl.Screen) {
	t.Helper()
	done := impl.DoAll(s, list)
	if !rightScreen(done, want) {
		t.Fatalf("%s on %v = %v, want %v", actionsAll(list), s, done, want)
	}
	r := impl.ResizeScreen(done.Screen, rows, width)
	want = resizedScreen(want, rows, width)
	if !rightScreen(r, want) {
		t.Fatalf("%v to %d, %d = %v, want %v", done.Screen, rows, width, r, want)
	}
	return r.Screen, want
}

// resizedScreen is a screen of another size, by the words of the document.
func resizedScreen(s impl.Screen, rows, width int64) impl.Screen {
	was := s.Grid.Width
	tabs := slices.Clone(s.Tabs)[:min(was, width)]
	for x := was; x < width; x++ {
		tabs = append(tabs, x == 8)
	}
	s.Grid = impl.Grid{Rows: rows, Width: width, Cells: resizedCells(s.Grid.Cells, was, rows, width), Back: resizedCells(s.Grid.Back, was, int64(len(s.Grid.Back))/was, width)}
	s.Top, s.Bottom, s.Wrap, s.Tabs = 0, rows-1, false, tabs
	s.Y, s.X = min(s.Y, rows-1), min(s.X, width-1)
	return s
}

func TestDoAllIsDoActionOneByOne(t *testing.T) {
	r := rand.New(rand.NewPCG(1, 2))
	for _, s := range fewScreens(31) {
		var list []impl.Action
		for range 40 {
			list = append(list, anyAction(r))
		}
		one := impl.ScreenResult{Screen: s}
		for _, a := range list {
			one = impl.DoAction(one.Screen, a)
		}
		if all := impl.DoAll(s, list); !rightScreen(all, one.Screen) {
			t.Fatalf("%s on %v at once %v, one by one %v", actionsAll(list), s, all, one)
		}
		for cut := range len(list) + 1 {
			if parts := impl.DoAll(impl.DoAll(s, list[:cut]).Screen, list[cut:]); !rightScreen(parts, one.Screen) {
				t.Fatalf("%s cut at %d = %v, want %v", actionsAll(list), cut, parts, one)
			}
		}
	}
}

func TestDoAllMany(t *testing.T) {
	s := emptyScreen(2, 3)
	bell := impl.Action{Kind: 2, Char: 7}
	up, down := impl.Action{Kind: 1, Char: 'a'}, impl.Action{Kind: 1, Char: 31}
	if r := impl.DoAll(s, slices.Repeat([]impl.Action{bell}, 2000)); r.Code != impl.OK || r.Screen.Bells != 999 {
		t.Errorf("2000 bells = %v", r)
	}
	for _, n := range []int{2001, 2002, 10000} {
		if r := impl.DoAll(s, slices.Repeat([]impl.Action{bell}, n)); !onlyScreenCode(r, impl.ErrMany) {
			t.Errorf("%d bells = %v", n, r)
		}
		// Too many are told ahead of a fault of the screen or of an action.
		for _, a := range []impl.Action{down, {Kind: 9}} {
			if r := impl.DoAll(impl.Screen{}, slices.Repeat([]impl.Action{a}, n)); !onlyScreenCode(r, impl.ErrMany) {
				t.Errorf("%d of %v on no screen = %v", n, a, r)
			}
		}
	}
	if r := impl.DoAll(impl.Screen{}, slices.Repeat([]impl.Action{{Kind: 9}}, 2000)); !onlyScreenCode(r, impl.ErrRange) {
		t.Errorf("on no screen: %v", r)
	}
	for _, list := range [][]impl.Action{nil, {}, {{}}, make([]impl.Action, 2000)} {
		if r := impl.DoAll(s, list); !rightScreen(r, s) {
			t.Errorf("%d times nothing = %v", len(list), r)
		}
	}
	// The first action with a fault tells its code, and nothing stays of what was done ahead of it.
	for _, x := range []struct {
		wrong impl.Action
		code  int64
	}{{down, impl.ErrRange}, {impl.Action{Kind: 6}, impl.ErrForm}, {impl.Action{Kind: 4, Char: 'm'}, impl.ErrMany}, {sequence('m', 1000), impl.ErrRange}, {impl.Action{Kind: 5, Char: 'B', Set: 3}, impl.ErrRange}} {
		for _, ahead := range []int{0, 1, 5, 1999} {
			list := append(slices.Repeat([]impl.Action{up}, ahead), x.wrong)
			if r := impl.DoAll(s, list); !onlyScreenCode(r, x.code) {
				t.Errorf("%v behind %d others = %v, want %d", x.wrong, ahead, r, x.code)
			}
			if r := impl.DoAll(s, append(list[:ahead+1:ahead+1], impl.Action{Kind: 6}, down)); ahead < 1999 && !onlyScreenCode(r, x.code) {
				t.Errorf("%v ahead of others = %v, want %d", x.wrong, r, x.code)
			}
		}
		if r := impl.DoAction(s, x.wrong); !onlyScreenCode(r, x.code) {
			t.Errorf("%v = %v, want %d", x.wrong, r, x.code)
		}
	}
}

// Every fault of an action is told by DoAction, whatever its kind.
func TestDoActionFaults(t *testing.T) {
	s := screenOfSize(2, 3, 1)
	for kind := int64(-1); kind <= 6; kind++ {
		for _, c := range []int64{-1, 0, 7, 24, 26, 27, 31, 32, 47, 48, 63, 64, 91, 126, 127, 128, 55296, 65535, 65536, bigNumbers[0], bigNumbers[3]} {
			for _, x := range someParams()[:16] {
				for _, set := range []int64{0, 1, 2, 3} {
					a := impl.Action{Kind: kind, Char: c, Set: set, Params: x.list}
					for _, a.Private = range []bool{false, true} {
						r := impl.DoAction(s, a)
						if code := impl.ActionFault(a); code != impl.OK && !onlyScreenCode(r, code) || code == impl.OK && !rightScreen(r, modelled(s, a)) {
							t.Fatal(fmt.Sprint(a, " = ", r, ", fault ", code))
						}
					}
				}
			}
		}
	}
}
