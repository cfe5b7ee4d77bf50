package tests

import (
	"fmt"
	"slices"
	"strings"
	"testing"

	"loop.example/g00523/impl"
)

// emptyScreen and screenOfSize are made without the program's own NewScreen; the cells of the second are those of gridOfSize.
func emptyScreen(rows, width int64) impl.Screen {
	return screenOfGrid(impl.Grid{Rows: rows, Width: width, Cells: slices.Repeat([]impl.Cell{blank(0)}, int(rows*width))})
}

func screenOfSize(rows, width, back int64) impl.Screen {
	return screenOfGrid(gridOfSize(rows, width, back))
}

func screenOfGrid(g impl.Grid) impl.Screen {
	s := impl.Screen{Grid: g, Bottom: g.Rows - 1, AutoWrap: true, Sets: []int64{1, 1}, Tabs: make([]bool, g.Width)}
	if g.Width > 8 {
		s.Tabs[8] = true
	}
	return s
}

// sameScreen holds all of screens against each other without the program's own SameShown.
func sameScreen(a, b impl.Screen) bool {
	return sameGrid(a.Grid, b.Grid) && a.Y == b.Y && a.X == b.X && a.Wrap == b.Wrap && a.Attr == b.Attr &&
		a.Top == b.Top && a.Bottom == b.Bottom && a.Origin == b.Origin && a.AutoWrap == b.AutoWrap && a.Insert == b.Insert &&
		slices.Equal(a.Tabs, b.Tabs) && a.KeptY == b.KeptY && a.KeptX == b.KeptX && a.KeptAttr == b.KeptAttr &&
		slices.Equal(a.Sets, b.Sets) && a.Shift == b.Shift && a.Bells == b.Bells
}

// rightScreen tells whether an answer is that screen, without a code or a fault.
func rightScreen(r impl.ScreenResult, want impl.Screen) bool {
	return r.Code == impl.OK && sameScreen(r.Screen, want) && impl.ScreenFault(r.Screen) == impl.OK
}

// onlyScreenCode tells whether an answer has that code and nothing beside it.
func onlyScreenCode(r impl.ScreenResult, code int64) bool {
	return r.Code == code && sameScreen(r.Screen, impl.Screen{})
}

// todo are the actions of a text with sequences.
func todo(text string) []impl.Action {
	r := impl.ParseMany(impl.Parser{}, charsOf(text))
	if r.Code != impl.OK || r.Parser.Mode != impl.ModeText {
		panic("no whole sequences: " + text)
	}
	return r.Actions
}

// behind is a screen with that done on it.
func behind(t *testing.T, s impl.Screen, text string) impl.Screen {
	t.Helper()
	r := impl.DoAll(s, todo(text))
	if r.Code != impl.OK || impl.ScreenFault(r.Screen) != impl.OK {
		t.Fatalf("%q on %v = %v with fault %d", text, s, r, impl.ScreenFault(r.Screen))
	}
	return r.Screen
}

// screenOfText has rows of letters of attribute 0 with "/" between, Back ahead of a "|"; "." is a blank of 0.
func screenOfText(text string) impl.Screen {
	g := gridOfText(strings.ReplaceAll(text, "/", " "))
	for _, list := range [][]impl.Cell{g.Cells, g.Back} {
		for i := range list {
			list[i].Attr = 0
		}
	}
	return screenOfGrid(g)
}

// shownText tells a screen as screenOfText takes it ("_" is a blank of another attribute than 0), then the place, and whether it has Wrap.
func shownText(s impl.Screen) string {
	rows := func(cells []impl.Cell) string {
		var out []string
		for row := range slices.Chunk(cells, int(s.Grid.Width)) {
			var text strings.Builder
			for _, c := range row {
				switch {
				case c == blank(0):
					text.WriteByte('.')
				case c.Char == 32:
					text.WriteByte('_')
				default:
					text.WriteRune(rune(c.Char))
				}
			}
			out = append(out, text.String())
		}
		return strings.Join(out, "/")
	}
	out := rows(s.Grid.Cells)
	if len(s.Grid.Back) > 0 {
		out = rows(s.Grid.Back) + "|" + out
	}
	out += fmt.Sprintf(" %d,%d", s.Y, s.X)
	if s.Wrap {
		out += " wrap"
	}
	return out
}

// shownRow is a row of a table by hand: a screen as screenOfText takes it, what is done, and how it is shown then.
type shownRow struct {
	screen, text, want string
}

func wantShown(t *testing.T, rows []shownRow) {
	t.Helper()
	for _, x := range rows {
		s := screenOfText(x.screen)
		if got := shownText(behind(t, s, x.text)); got != x.want {
			t.Errorf("%q on %s is %s, want %s", x.text, x.screen, got, x.want)
		}
		for _, a := range todo(x.text) {
			r := impl.DoAction(s, a)
			if r.Code != impl.OK || impl.ScreenFault(r.Screen) != impl.OK {
				t.Fatalf("%q on %s: %v = %v", x.text, x.screen, a, r)
			}
			s = r.Screen
		}
		if got := shownText(s); got != x.want {
			t.Errorf("%q on %s, one by one, is %s, want %s", x.text, x.screen, got, x.want)
		}
	}
}

// regionsOf are all rows, and of more than two rows the first ones, the last ones, and some between.
func regionsOf(rows int64) [][2]int64 {
	list := [][2]int64{{0, rows - 1}}
	if rows > 2 {
		list = append(list, [2]int64{0, 1}, [2]int64{rows - 2, rows - 1}, [2]int64{0, rows - 2}, [2]int64{1, rows - 1})
	}
	if rows > 3 {
		list = append(list, [2]int64{1, rows - 2})
	}
	return list
}

// columnsOf are the first and the last ones, and one between.
func columnsOf(width int64) []int64 {
	list := []int64{0, 1, width / 2, width - 2, width - 1}
	slices.Sort(list)
	return slices.Compact(list)
}

// manyScreens are of the least, the greatest and some other sizes, with each region, the place above, in and below it,
// in the first, the last and some other columns, with each of Wrap, Origin, AutoWrap, Insert where they may be; what is
// left differs from one to the next.
func manyScreens() []impl.Screen {
	var screens []impl.Screen
	for _, size := range [][2]int64{{1, 2}, {1, 12}, {2, 3}, {4, 2}, {5, 9}, {6, 12}} {
		for _, region := range regionsOf(size[0]) {
			for y := range size[0] {
				for _, x := range columnsOf(size[1]) {
					for flags := range 16 {
						i := int64(len(screens))
						s := screenOfSize(size[0], size[1], i%6)
						s.Y, s.X, s.Top, s.Bottom = y, x, region[0], region[1]
						s.Wrap, s.Origin, s.AutoWrap, s.Insert = flags&1 > 0, flags&2 > 0, flags&4 > 0, flags&8 > 0
						if s.Wrap && (!s.AutoWrap || x < size[1]-1) || s.Origin && (y < s.Top || y > s.Bottom) {
							continue
						}
						s.Attr, s.KeptY, s.KeptX, s.KeptAttr = i*7%32, i%6, i*5%12, i*3%32
						s.Sets, s.Shift, s.Bells = []int64{1 + i%3, 1 + i/3%3}, i/9%2, 997+i%3
						s.Tabs[i%size[1]], s.Tabs[size[1]-1] = true, i%4 == 0
						screens = append(screens, s)
					}
				}
			}
		}
	}
	return screens
}

// fewScreens are some of these.
func fewScreens(step int) []impl.Screen {
	var screens []impl.Screen
	for i, s := range manyScreens() {
		if i%step == 0 {
			screens = append(screens, s)
		}
	}
	return screens
}

func TestManyScreensHaveNoFault(t *testing.T) {
	wraps, origins := 0, 0
	for _, s := range manyScreens() {
		if code := impl.ScreenFault(s); code != impl.OK {
			t.Fatalf("ScreenFault(%v) = %d", s, code)
		}
		wraps += int(codeIf(s.Wrap, 1))
		origins += int(codeIf(s.Origin && s.Top > 0, 1))
	}
	if wraps < 20 || origins < 20 {
		t.Errorf("only %d with Wrap, %d with Origin", wraps, origins)
	}
}

// wantModel asks that an action does on each screen what the document says.
func wantModel(t *testing.T, screens []impl.Screen, actions []impl.Action) {
	t.Helper()
	for _, a := range actions {
		for _, s := range screens {
			if r, want := impl.DoAction(s, a), modelled(s, a); !rightScreen(r, want) {
				t.Fatalf("%v on %v = %v, want %v", a, s, r, want)
			}
		}
	}
}

func TestEveryControl(t *testing.T) {
	var actions []impl.Action
	for c := range int64(32) {
		if fitsKind(2, c) {
			actions = append(actions, impl.Action{Kind: 2, Char: c})
		}
	}
	wantModel(t, manyScreens(), actions[7:16])
	wantModel(t, fewScreens(13), actions)
}

func TestEveryEscape(t *testing.T) {
	var actions []impl.Action
	for c := int64(48); c < 127; c++ {
		if c != '[' {
			actions = append(actions, impl.Action{Kind: 3, Char: c})
		}
	}
	wantModel(t, fewScreens(7), actions)
	for _, c := range "cDEHM78" {
		wantModel(t, manyScreens(), []impl.Action{{Kind: 3, Char: int64(c)}})
	}
}

func TestEverySet(t *testing.T) {
	var actions []impl.Action
	for c := int64(32); c < 140; c++ {
		if c != 127 {
			actions = append(actions, impl.Action{Kind: 5, Char: c, Set: 1}, impl.Action{Kind: 5, Char: c, Set: 2})
		}
	}
	actions = append(actions, impl.Action{Kind: 5, Char: 65535, Set: 1}, impl.Action{Kind: 5, Char: 256 + 'B', Set: 2})
	wantModel(t, fewScreens(23), actions)
}

func TestNothingToDo(t *testing.T) {
	for _, s := range manyScreens() {
		if r := impl.DoAction(s, impl.Action{}); !rightScreen(r, s) {
			t.Fatalf("ActNone on %v = %v", s, r)
		}
	}
}

func TestEveryPrint(t *testing.T) {
	wantModel(t, manyScreens(), []impl.Action{{Kind: 1, Char: 'q'}, {Kind: 1, Char: 8364}})
	var actions []impl.Action
	for c := int64(32); c < 140; c++ {
		if c != 127 {
			actions = append(actions, impl.Action{Kind: 1, Char: c})
		}
	}
	for _, c := range shownEdges {
		actions = append(actions, impl.Action{Kind: 1, Char: c})
	}
	wantModel(t, fewScreens(19), actions)
}

// Promise 6: a character is where the place was, or, with Wrap, at the beginning of the next row (of the same one, where there is no next to step to).
func TestPrintedIsThere(t *testing.T) {
	for _, s := range manyScreens() {
		r := impl.DoAction(s, impl.Action{Kind: 1, Char: 8364}).Screen
		y, x := s.Y, s.X
		if s.Wrap {
			x = 0
			if y != s.Bottom && y != s.Grid.Rows-1 {
				y++
			}
		}
		if r.Grid.Cells[y*s.Grid.Width+x] != cell(8364, s.Attr) || r.Y != y {
			t.Fatalf("printed on %v it is not at %d, %d: %v", s, y, x, r)
		}
	}
}

func TestPrintByHand(t *testing.T) {
	wantShown(t, []shownRow{
		{"../..", "", "../.. 0,0"},
		{"..", "a", "a. 0,1"},
		{"..", "ab", "ab 0,1 wrap"},
		{"..", "abc", "ab|c. 0,1"},
		{"..", "\x1b[?7labc", "ac 0,1"},
		{"..../..../....", "abcd", "abcd/..../.... 0,3 wrap"},
		{"..../..../....", "abcde", "abcd/e.../.... 1,1"},
		{"..../..../....", "abcdefghijkl", "abcd/efgh/ijkl 2,3 wrap"},
		{"..../..../....", "abcdefghijklm", "abcd|efgh/ijkl/m... 2,1"},
		{"..../..../....", "\x1b[?7labcdef", "abcf/..../.... 0,3"},
		{"..../..../....", "abcd\x1b[?7le", "abce/..../.... 0,3"},
		{"..../..../....", "\x1b[?7labcd\x1b[?7he", "abce/..../.... 0,3 wrap"},
		{"..../..../....", "\x1b[?7labcd\x1b[?7hef", "abce/f.../.... 1,1"},
		// Behind the last column in the region's last row, below the region, above it.
		{"..../..../....", "\x1b[1;2r\x1b[2;4Hxy", "....|...x/y.../.... 1,1"},
		{"abcd/efgh/ijkl", "\x1b[2;3r\x1b[3;4Hxy", "abcd/ijkx/y... 2,1"},
		{"abcd/efgh/ijkl", "\x1b[1;2r\x1b[3;4Hxy", "abcd/efgh/yjkx 2,1"},
		{"abcd/efgh/ijkl", "\x1b[2;3r\x1b[1;4Hxy", "abcx/yfgh/ijkl 1,1"},
		{"abcd/efgh/ijkl/mnop", "\x1b[1;2r\x1b[3;4Hxy", "abcd/efgh/ijkx/ynop 3,1"},
		// With Insert.
		{"abcd/efgh", "\x1b[4hX", "Xabc/efgh 0,1"},
		{"abcd/efgh", "\x1b[4hXY", "XYab/efgh 0,2"},
		{"abcd/efgh", "\x1b[4h\x1b[1;4HX", "abcX/efgh 0,3 wrap"},
		{"abcd/efgh", "\x1b[4h\x1b[1;4HXY", "abcX/Yefg 1,1"},
		{"abcd/efgh", "\x1b[4h\x1b[2;4HXY", "abcd|efgX/Y... 1,1"},
		{"abcd/efgh", "\x1b[4h\x1b[?7l\x1b[1;4HXY", "abcY/efgh 0,3"},
		{"abcd/efgh", "\x1b[4hX\x1b[4lY", "XYbc/efgh 0,2"},
		// A row that begins at the bottom has blanks of Attr behind it.
		{"ab/cd", "\x1b[2;2H\x1b[35mxy", "ab|cx/y_ 1,1"},
		// A blank is printed as others are; a character from 128 on as itself, whatever the table.
		{"abcd", "\x1b[2G \x1b[31m ", "a._d 0,3"},
		{"....", "\x1b(0q\u00e4\u20ac", "\u2510\u00e4\u20ac. 0,3"},
		{"....", "\x1b(Uq\u00e4\u20ac", "\uf071\u00e4\u20ac. 0,3"},
	})
}

func TestTablesByHand(t *testing.T) {
	for _, x := range []struct {
		text string
		want []int64
	}{
		{"aZ~ ", []int64{'a', 'Z', '~', 32}},
		{"\x1b(0az`{", []int64{9472, 9497, '`', '{'}},
		{"\x1b(U!~ \u0080", []int64{61473, 61566, 32, 128}},
		{"\x1b)0az", []int64{'a', 'z', 32, 32}},
		{"\x1b)0\x0eaz\x0fa", []int64{9472, 9497, 'a', 32}},
		{"\x1b(0\x0ea\x0fa", []int64{'a', 9472, 32, 32}},
		{"\x1b(0\x1b)Ua\x0ea\x0f\x1b(Ba", []int64{9472, 61537, 'a', 32}},
		{"\x1b(0\x1b(xa", []int64{9472, 32, 32, 32}},
		{"\x1b(0\x1bca", []int64{'a', 32, 32, 32}},
	} {
		var got []int64
		for _, c := range behind(t, emptyScreen(1, 4), x.text).Grid.Cells {
			got = append(got, c.Char)
		}
		if !slices.Equal(got, x.want) {
			t.Errorf("%q prints %v, want %v", x.text, got, x.want)
		}
	}
}

func TestControlsByHand(t *testing.T) {
	wantShown(t, []shownRow{
		{"abc/def/ghi", "\x1b[2;3H\b", "abc/def/ghi 1,1"},
		{"abc/def/ghi", "\x1b[2;1H\b", "abc/def/ghi 1,0"},
		{"abc/def/ghi", "xyz\b", "xyz/def/ghi 0,1"},
		{"abc/def/ghi", "xyz\r", "xyz/def/ghi 0,0"},
		{"abc/def/ghi", "xyz\n", "xyz/def/ghi 1,2"},
		{"abc/def/ghi", "xyz\v", "xyz/def/ghi 1,2"},
		{"abc/def/ghi", "xyz\f", "xyz/def/ghi 1,2"},
		{"abc/def/ghi", "xyz\t", "xyz/def/ghi 0,2"},
		{"abc/def/ghi", "xyz\a\x00\x01\x06\x10\x1f", "xyz/def/ghi 0,2 wrap"},
		{"abc/def/ghi", "xyz\x0e\x0f", "xyz/def/ghi 0,2 wrap"},
		{"abc/def/ghi", "\x1b[3;2H\n", "abc|def/ghi/... 2,1"},
		{"abc/def/ghi", "\n\n\n\n", "abc/def|ghi/.../... 2,0"},
		{"abc/def/ghi", "\x1b[1;2r\x1b[3;2H\n", "abc/def/ghi 2,1"},
		{"abc/def/ghi", "\x1b[1;2r\x1b[2;2H\n", "abc|def/.../ghi 1,1"},
		{"abc/def/ghi", "\x1b[2;3r\x1b[3;2H\x1b[1m\n", "abc/ghi/___ 2,1"},
		{"abc/def/ghi", "\x1b[2;3r\x1b[1;2H\n", "abc/def/ghi 1,1"},
		{"ab|cd", "\n", "ab/cd|.. 0,0"},
		{"1./2./3./4./5.|ab/cd", "\n\n", "2./3./4./5./ab|cd/.. 1,0"},
		{"............", "\t", "............ 0,8"},
		{"............", "\t\t", "............ 0,11"},
		{"............", "\t\t\t", "............ 0,11"},
		{"........", "\t", "........ 0,7"},
		{".........", "\t", "......... 0,8"},
		{"............", "\x1b[9G\t", "............ 0,11"},
		{"............", "\x1b[3G\x1bH\x1b[5G\x1bH\r\t", "............ 0,2"},
		{"............", "\x1b[3G\x1bH\x1b[5G\x1bH\r\t\t", "............ 0,4"},
		{"............", "\x1b[3G\x1bH\x1b[5G\x1bH\r\t\t\t", "............ 0,8"},
		{"............", "\x1b[3g\t", "............ 0,11"},
		{"............", "\x1b[1G\x1bH\t", "............ 0,8"},
		{"............", "\x1b[9G\x1b[g\r\t", "............ 0,11"},
	})
}

func TestBells(t *testing.T) {
	s := emptyScreen(2, 3)
	for n := range int64(1003) {
		if s.Bells != min(n, 999) {
			t.Fatalf("%d bells are %d", n, s.Bells)
		}
		want := s
		want.Bells = min(n+1, 999)
		r := impl.DoAction(s, impl.Action{Kind: 2, Char: 7})
		if !rightScreen(r, want) {
			t.Fatalf("a bell behind %d: %v", n, r)
		}
		s = r.Screen
	}
}

func TestEscapesByHand(t *testing.T) {
	wantShown(t, []shownRow{
		{"abc/def/ghi", "\x1b[2;3H\x1bD", "abc/def/ghi 2,2"},
		{"abc/def/ghi", "\x1b[3;3H\x1bD", "abc|def/ghi/... 2,2"},
		{"abc/def/ghi", "\x1b[2;3H\x1bE", "abc/def/ghi 2,0"},
		{"abc/def/ghi", "\x1b[3;3H\x1bE", "abc|def/ghi/... 2,0"},
		{"abc/def/ghi", "\x1b[2;3H\x1bM", "abc/def/ghi 0,2"},
		{"abc/def/ghi", "\x1b[1;3H\x1bM", ".../abc/def 0,2"},
		{"abc/def/ghi", "\x1b[1;3H\x1b[7m\x1bM", "___/abc/def 0,2"},
		{"abc/def/ghi", "xyz\x1bM", ".../xyz/def 0,2"},
		{"abc/def/ghi", "xyz\x1bD", "xyz/def/ghi 1,2"},
		{"abc/def/ghi", "xyz\x1bE", "xyz/def/ghi 1,0"},
		{"abc/def/ghi", "xyz\x1bH\x1b7\x1bA\x1b~\x1b=", "xyz/def/ghi 0,2 wrap"},
		{"abc/def/ghi", "\x1b[2;3r\x1b[2;2H\x1bM", "abc/.../def 1,1"},
		{"abc/def/ghi", "\x1b[2;3r\x1b[1;2H\x1bM", "abc/def/ghi 0,1"},
		{"abc/def/ghi", "\x1b[1;2r\x1b[3;2H\x1bM", "abc/def/ghi 1,1"},
		{"abc/def/ghi", "\x1b[1;2r\x1b[3;2H\x1bD", "abc/def/ghi 2,1"},
		{"abc/def/ghi", "\x1b[1;2r\x1b[3;2H\x1bE", "abc/def/ghi 2,0"},
		{"ab|cd", "\x1bM", "ab|.. 0,0"},
		{"ab|cd", "\x1bD", "ab/cd|.. 0,0"},
		{"xyz|abc/def/ghi", "\x1b[2;2H\x1bc", ".../.../... 0,0"},
	})
}

// A reset leaves nothing of what was there.
func TestResetEverywhere(t *testing.T) {
	for _, s := range manyScreens() {
		for _, text := range []string{"\x1bc", "\x1bcab\x1b7\x1b[5;3H\x1b[1m\x1bc"} {
			if r := impl.DoAll(s, todo(text)); !rightScreen(r, emptyScreen(s.Grid.Rows, s.Grid.Width)) {
				t.Fatalf("%q on %v = %v", text, s, r)
			}
		}
	}
}

func TestTabStopsByHand(t *testing.T) {
	for _, x := range []struct {
		text string
		want []int
	}{
		{"", []int{8}},
		{"\x1bH", []int{0, 8}},
		{"\x1b[12G\x1bH\x1bH", []int{8, 11}},
		{"\x1b[g", []int{8}},
		{"\x1b[9G\x1b[g", nil},
		{"\x1b[9G\x1b[0;3g", nil},
		{"\x1b[4G\x1bH\x1b[9G\x1b[g", []int{3}},
		{"\x1b[4G\x1bH\x1b[3g", nil},
		{"\x1b[4G\x1bH\x1b[3;0g", nil},
		{"\x1b[4G\x1bH\x1b[1g\x1b[2g\x1b[4g\x1b[1;3g\x1b[5;0g\x1b[?3g\x1b[?g", []int{3, 8}},
		{"\x1b[3g\x1b[12G\x1bH", []int{11}},
		{"\x1b[3g\x1bc", []int{8}},
	} {
		var got []int
		for column, stop := range behind(t, emptyScreen(2, 12), x.text).Tabs {
			if stop {
				got = append(got, column)
			}
		}
		if !slices.Equal(got, x.want) {
			t.Errorf("%q has tab stops %v, want %v", x.text, got, x.want)
		}
	}
}

// What makes Wrap false, and what leaves it.
func TestWrapEndsAndStays(t *testing.T) {
	s := behind(t, screenOfSize(3, 4, 1), "\x1b[2;4Hx")
	for _, text := range strings.Fields("\b \x1b8 \x1bD \x1bE \x1bM \x1bc \x1b[A \x1b[B \x1b[C \x1b[D \x1b[E \x1b[F \x1b[G \x1b[4G \x1b[` \x1b[d \x1b[2d \x1b[H \x1b[2;4H \x1b[f \x1b[?6h \x1b[?6l \x1b[?7l \x1b[r \x1b[1;2r \x1b[u \x1b[?7;6h x") {
		wantWrap(t, s, text, false)
	}
	for _, text := range []string{"\t", "\n", "\v", "\f", "\r"} {
		wantWrap(t, s, text, false)
	}
	for _, text := range strings.Fields("\a \x0e \x0f \x01 \x1bH \x1b7 \x1bZ \x1b(0 \x1b)U \x1b(x \x1b[m \x1b[31;1m \x1b[J \x1b[1J \x1b[2J \x1b[3J \x1b[K \x1b[1K \x1b[2K \x1b[3K \x1b[X \x1b[L \x1b[M \x1b[S \x1b[T \x1b[@ \x1b[P \x1b[g \x1b[3g \x1b[s \x1b[4h \x1b[4l \x1b[?7h \x1b[?5h \x1b[?5l \x1b[7l \x1b[6h \x1b[2;1r \x1b[2;4r \x1b[z \x1b[?m \x1b[?H \x1b[?r \x1b[?u \x1b[?D") {
		wantWrap(t, s, text, true)
	}
}

func wantWrap(t *testing.T, s impl.Screen, text string, want bool) {
	t.Helper()
	if !s.Wrap {
		t.Fatal("there is no Wrap ahead")
	}
	if behind(t, s, text).Wrap != want {
		t.Errorf("behind %q Wrap is %v", text, !want)
	}
}
