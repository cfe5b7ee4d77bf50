package tests

import (
	"slices"
	"strings"
	"testing"

	"loop.example/g00523/impl"
)

var (
	noBits    = append([]int64{-4, -2, -1, 0, 3, 5, 6, 7, 8, 9, 16}, bigNumbers...)
	noAccents = append([]int64{-3, -2, -1, 4, 5, 6, 8}, bigNumbers...)
)

func hold(key, bit int64) impl.Hold {
	return impl.Hold{Key: key, Bit: bit}
}

// holding is a keyboard with these holds, and nothing else.
func holding(holds ...impl.Hold) impl.Keyboard {
	return impl.Keyboard{Holds: holds}
}

// typing is a keyboard that holds nothing.
func typing(caps bool, accent int64) impl.Keyboard {
	return impl.Keyboard{Caps: caps, Accent: accent}
}

func withCaps(k impl.Keyboard) impl.Keyboard {
	k.Caps = true
	return k
}

func withAccent(k impl.Keyboard, accent int64) impl.Keyboard {
	k.Accent = accent
	return k
}

// goodHolds are of 0 to 4 keys, at the bounds and between, with each bit and with bits that several keys hold.
func goodHolds() [][]impl.Hold {
	return [][]impl.Hold{
		nil, {},
		{hold(1, 1)}, {hold(1, 2)}, {hold(1, 4)}, {hold(40, 1)}, {hold(40, 2)}, {hold(40, 4)}, {hold(20, 2)},
		{hold(1, 1), hold(2, 1)}, {hold(1, 4), hold(40, 1)}, {hold(39, 2), hold(40, 2)}, {hold(5, 2), hold(9, 4)},
		{hold(1, 1), hold(2, 2), hold(3, 4)}, {hold(38, 4), hold(39, 2), hold(40, 1)}, {hold(5, 2), hold(15, 2), hold(25, 2)}, {hold(3, 1), hold(7, 4), hold(11, 1)},
		{hold(1, 1), hold(2, 2), hold(3, 4), hold(4, 1)}, {hold(37, 4), hold(38, 4), hold(39, 4), hold(40, 4)}, {hold(2, 1), hold(12, 2), hold(22, 2), hold(32, 1)},
	}
}

// goodKeyboards are all of these, with Caps and without, with each accent and none.
func goodKeyboards() []impl.Keyboard {
	var boards []impl.Keyboard
	for _, holds := range goodHolds() {
		for accent := range int64(4) {
			boards = append(boards, impl.Keyboard{Holds: holds, Accent: accent}, impl.Keyboard{Holds: holds, Caps: true, Accent: accent})
		}
	}
	return boards
}

// wrongBoard is a keyboard with the code that it has to be told.
type wrongBoard struct {
	board impl.Keyboard
	code  int64
}

// withHold is a copy of holds with another one at a place.
func withHold(holds []impl.Hold, at int, h impl.Hold) []impl.Hold {
	holds = slices.Clone(holds)
	holds[at] = h
	return holds
}

// wrongBoardsOfOne have one fault each.
func wrongBoardsOfOne() []wrongBoard {
	full := []impl.Hold{hold(2, 1), hold(12, 2), hold(22, 4), hold(32, 1)}
	five := append(slices.Clone(full), hold(40, 2))
	wrong := []wrongBoard{{holding(five...), impl.ErrMany}, {holding(slices.Concat(five, five)...), impl.ErrMany}}
	add := func(board impl.Keyboard) {
		wrong = append(wrong, wrongBoard{board, impl.ErrRange})
	}
	for at := range full {
		for _, n := range noKeys {
			add(holding(withHold(full, at, hold(n, 1))...))
		}
		for _, n := range noBits {
			add(holding(withHold(full, at, hold(full[at].Key, n))...))
		}
	}
	for _, n := range noKeys {
		add(holding(hold(n, 4)))
	}
	for _, n := range noBits {
		add(holding(hold(1, n)))
		add(holding(hold(40, n)))
	}
	for _, n := range noAccents {
		add(typing(false, n))
		add(typing(true, n))
		add(withAccent(holding(full...), n))
	}
	return append(wrong, boardsThatFall()...)
}

// boardsThatFall do not rise, at each place, by keys alone and whatever the bits are.
func boardsThatFall() []wrongBoard {
	var wrong []wrongBoard
	for _, holds := range [][]impl.Hold{
		{hold(5, 1), hold(5, 1)}, {hold(5, 1), hold(5, 2)}, {hold(5, 4), hold(5, 1)}, {hold(1, 1), hold(1, 1)}, {hold(40, 4), hold(40, 4)},
		{hold(5, 1), hold(4, 1)}, {hold(5, 1), hold(4, 4)}, {hold(5, 4), hold(4, 1)}, {hold(40, 1), hold(1, 2)}, {hold(2, 1), hold(1, 2)},
		{hold(1, 1), hold(3, 2), hold(3, 4)}, {hold(1, 1), hold(3, 2), hold(2, 4)}, {hold(1, 1), hold(3, 2), hold(1, 4)}, {hold(3, 1), hold(1, 2), hold(4, 4)}, {hold(3, 1), hold(3, 2), hold(4, 4)},
		{hold(1, 1), hold(2, 2), hold(3, 4), hold(3, 1)}, {hold(1, 1), hold(2, 2), hold(3, 4), hold(2, 1)}, {hold(1, 1), hold(2, 2), hold(3, 4), hold(1, 1)},
		{hold(2, 2), hold(1, 1), hold(3, 4), hold(4, 1)}, {hold(1, 1), hold(3, 2), hold(2, 4), hold(4, 1)}, {hold(4, 1), hold(3, 1), hold(2, 1), hold(1, 1)},
	} {
		wrong = append(wrong, wrongBoard{holding(holds...), impl.ErrRange})
	}
	return wrong
}

// wrongBoardsTogether have several faults: that there are more is told ahead of all others.
func wrongBoardsTogether() []wrongBoard {
	five := []impl.Hold{hold(1, 1), hold(2, 1), hold(3, 1), hold(4, 1), hold(5, 1)}
	return []wrongBoard{
		{withAccent(holding(five...), 4), impl.ErrMany},
		{withAccent(holding(five...), -1), impl.ErrMany},
		{holding(withHold(five, 0, hold(0, 1))...), impl.ErrMany},
		{holding(withHold(five, 0, hold(1, 3))...), impl.ErrMany},
		{holding(withHold(five, 1, hold(1, 1))...), impl.ErrMany},
		{holding(withHold(five, 4, hold(41, 1))...), impl.ErrMany},
		{holding(withHold(five, 4, hold(4, 1))...), impl.ErrMany},
		{withAccent(withCaps(holding(make([]impl.Hold, 5)...)), 9), impl.ErrMany},
		{holding(make([]impl.Hold, 5000)...), impl.ErrMany},
		{holding(make([]impl.Hold, 4)...), impl.ErrRange},
		{withAccent(holding(hold(0, 0)), 4), impl.ErrRange},
		{withAccent(holding(hold(41, 8)), -1), impl.ErrRange},
		{withAccent(holding(hold(5, 1), hold(5, 1)), 4), impl.ErrRange},
		{withCaps(holding(hold(5, 1), hold(4, 3))), impl.ErrRange},
		{holding(hold(0, 1), hold(0, 1), hold(1, 0), hold(1, 1)), impl.ErrRange},
	}
}

func wrongBoards() []wrongBoard {
	return slices.Concat(wrongBoardsOfOne(), wrongBoardsTogether())
}

// wrongTexts are texts with the code that they have to be told.
type wrongTexts struct {
	texts []string
	code  int64
}

func textOf(size int) string {
	return strings.Repeat("x", size)
}

// goodTexts are of 0 to 4 texts, of 0 to 10 bytes, which need not be utf-8.
func goodTexts() [][]string {
	return [][]string{
		nil, {}, {""}, {"a"}, {textOf(9)}, {textOf(10)}, {"", ""}, {"", textOf(10)}, {textOf(10), ""},
		{"ls", "cd", "pwd"}, {"ls", "", "pwd"}, {textOf(10), textOf(10), textOf(10)},
		{"", "", "", ""}, {"ls", "cd", "pwd", "exit\n"}, {"", "ls", textOf(10), "\x00"}, {textOf(10), textOf(10), textOf(10), textOf(10)},
		{"\xff\x80\xc3", "äöüäö", "€€€x", "\x1b[2J"},
	}
}

func allWrongTexts() []wrongTexts {
	eleven := textOf(11)
	return []wrongTexts{
		{[]string{"", "", "", "", ""}, impl.ErrMany},
		{[]string{"a", "b", "c", "d", "e", "f"}, impl.ErrMany},
		{make([]string, 5000), impl.ErrMany},
		{[]string{eleven}, impl.ErrRange},
		{[]string{textOf(12)}, impl.ErrRange},
		{[]string{textOf(5000)}, impl.ErrRange},
		{[]string{eleven, "", "", ""}, impl.ErrRange},
		{[]string{"", eleven, "", ""}, impl.ErrRange},
		{[]string{"", "", eleven, ""}, impl.ErrRange},
		{[]string{"", "", "", eleven}, impl.ErrRange},
		{[]string{textOf(10), eleven}, impl.ErrRange},
		// Of 10 characters and fewer, but more bytes.
		{[]string{"äöüäöü"}, impl.ErrRange},
		{[]string{"a", "€€€€"}, impl.ErrRange},
		// Several faults.
		{[]string{eleven, "", "", "", ""}, impl.ErrMany},
		{[]string{"", "", "", "", eleven}, impl.ErrMany},
		{[]string{eleven, eleven, eleven, eleven, eleven}, impl.ErrMany},
		{[]string{eleven, eleven, eleven, eleven}, impl.ErrRange},
	}
}

func TestKeyboardFault(t *testing.T) {
	for _, k := range goodKeyboards() {
		if code := impl.KeyboardFault(k); code != impl.OK {
			t.Errorf("KeyboardFault(%v) = %d, want 0", k, code)
		}
	}
	for _, x := range wrongBoards() {
		if code := impl.KeyboardFault(x.board); code != x.code {
			t.Errorf("KeyboardFault(%v) = %d, want %d", x.board, code, x.code)
		}
	}
}

// Each key with each bit, and each accent, at and beside the bounds, written out by hand.
func TestKeyboardFaultBounds(t *testing.T) {
	for key := int64(-3); key <= 45; key++ {
		for bit := int64(-2); bit <= 17; bit++ {
			bad := key < 1 || key > 40 || bit != 1 && bit != 2 && bit != 4
			for accent := int64(-2); accent <= 6; accent++ {
				k := withAccent(holding(hold(key, bit)), accent)
				want := codeIf(bad || accent < 0 || accent > 3, impl.ErrRange)
				if code := impl.KeyboardFault(k); code != want {
					t.Fatalf("KeyboardFault(%v) = %d, want %d", k, code, want)
				}
			}
		}
	}
}

// Holds of all numbers of them: each list that rises has none, each other one has.
func TestKeyboardFaultRises(t *testing.T) {
	for i := range 7 * 7 * 7 * 7 {
		keys := []int64{int64(i % 7), int64(i / 7 % 7), int64(i / 49 % 7), int64(i / 343)}
		var holds []impl.Hold
		want := int64(impl.OK)
		for at, key := range keys {
			holds = append(holds, hold(key, 1<<((at+i)%3)))
			if key == 0 || at > 0 && key <= keys[at-1] {
				want = impl.ErrRange
			}
			if code := impl.KeyboardFault(holding(holds...)); code != want {
				t.Fatalf("KeyboardFault of %v = %d, want %d", holds, code, want)
			}
		}
		if code := impl.KeyboardFault(holding(append(holds, hold(40, 1))...)); code != impl.ErrMany {
			t.Fatalf("KeyboardFault of five %v = %d, want ErrMany", holds, code)
		}
	}
}

func TestTextsFault(t *testing.T) {
	for _, texts := range goodTexts() {
		if code := impl.TextsFault(texts); code != impl.OK {
			t.Errorf("TextsFault(%q) = %d, want 0", texts, code)
		}
	}
	for _, x := range allWrongTexts() {
		if code := impl.TextsFault(x.texts); code != x.code {
			t.Errorf("TextsFault(%q) = %d, want %d", x.texts, code, x.code)
		}
	}
	// All numbers of texts with all sizes, the last one as long as told.
	for n := 1; n <= 6; n++ {
		for size := range 14 {
			texts := make([]string, n)
			texts[n-1] = textOf(size)
			want := firstCode(codeIf(n > 4, impl.ErrMany), codeIf(size > 10, impl.ErrRange))
			if code := impl.TextsFault(texts); code != want {
				t.Errorf("TextsFault of %d texts, the last one of %d = %d, want %d", n, size, code, want)
			}
		}
	}
}

// otherBoards differ from a keyboard with two holds in one thing alone.
func otherBoards(k impl.Keyboard) map[string]impl.Keyboard {
	one, two := k.Holds[0], k.Holds[1]
	with := func(holds ...impl.Hold) impl.Keyboard {
		k.Holds = holds
		return k
	}
	others := map[string]impl.Keyboard{
		"the first key":  with(hold(one.Key+1, one.Bit), two),
		"the first bit":  with(hold(one.Key, 4), two),
		"the last key":   with(one, hold(two.Key+1, two.Bit)),
		"the last bit":   with(one, hold(two.Key, 4)),
		"one hold less":  with(one),
		"another one":    with(two),
		"no hold":        with(),
		"one hold more":  with(one, two, hold(40, 1)),
		"one hold ahead": with(hold(1, 1), one, two),
		"turned round":   with(two, one),
	}
	k.Holds = []impl.Hold{one, two}
	for accent := int64(-1); accent <= 4; accent++ {
		if accent != k.Accent {
			others["accent "+string(rune('1'+accent))] = withAccent(k, accent)
		}
	}
	k.Caps = !k.Caps
	others["Caps"] = k
	return others
}

func wantSame(t *testing.T, a, b impl.Keyboard, want bool) {
	t.Helper()
	if impl.SameKeyboards(a, b) != want || impl.SameKeyboards(b, a) != want {
		t.Fatalf("SameKeyboards(%v, %v) is not %t both ways round", a, b, want)
	}
}

func TestSameKeyboards(t *testing.T) {
	for accent := range int64(4) {
		for _, caps := range []bool{false, true} {
			k := impl.Keyboard{Holds: []impl.Hold{hold(5, 1), hold(9, 2)}, Caps: caps, Accent: accent}
			wantSame(t, k, impl.Keyboard{Holds: slices.Clone(k.Holds), Caps: caps, Accent: accent}, true)
			for name, other := range otherBoards(k) {
				if impl.SameKeyboards(k, other) || impl.SameKeyboards(other, k) {
					t.Errorf("%v is the same as %v, but for %s", k, other, name)
				}
			}
			k.Holds = nil
			wantSame(t, k, impl.Keyboard{Holds: []impl.Hold{}, Caps: caps, Accent: accent}, true)
		}
	}
	wantSame(t, impl.Keyboard{}, impl.Keyboard{Holds: make([]impl.Hold, 0, 4)}, true)
}

// Each keyboard with each other one, those with a fault too: it is the same as itself and as a copy, and as no other.
func TestSameKeyboardsOfPairs(t *testing.T) {
	boards := goodKeyboards()
	for _, x := range wrongBoards() {
		if len(x.board.Holds) < 9 {
			boards = append(boards, x.board)
		}
	}
	for _, a := range boards {
		for _, b := range boards {
			wantSame(t, a, b, sameBoard(a, b))
		}
		wantSame(t, a, impl.Keyboard{Holds: append([]impl.Hold{}, a.Holds...), Caps: a.Caps, Accent: a.Accent}, true)
	}
}

func TestModsOfFault(t *testing.T) {
	for _, x := range wrongBoards() {
		if r := impl.ModsOf(x.board); r != (impl.IntResult{Code: x.code}) {
			t.Errorf("ModsOf(%v) = %v, want %d", x.board, r, x.code)
		}
	}
}

// Every fault with every other one, of binds, texts, keyboard and key: they are told in that order, and nothing beside them.
func TestPressKeyFaults(t *testing.T) {
	binds := []wrongList{{pressBinds(), impl.OK}, {nil, impl.OK}, {bindsOfMany(25), impl.ErrMany}, {[]impl.Bind{bind(0, 0, 1, 65)}, impl.ErrRange}, {[]impl.Bind{bind(5, 0, 3, 3)}, impl.ErrRange}, {[]impl.Bind{bind(5, 0, 7, 0)}, impl.ErrForm}, {[]impl.Bind{charBind(5, 0), charBind(5, 0)}, impl.ErrForm}}
	texts := []wrongTexts{{[]string{"ls"}, impl.OK}, {nil, impl.OK}, {make([]string, 5), impl.ErrMany}, {[]string{textOf(11)}, impl.ErrRange}, {[]string{"", textOf(11)}, impl.ErrRange}}
	boards := []wrongBoard{{impl.Keyboard{}, impl.OK}, {withAccent(withCaps(holding(hold(1, 1))), 3), impl.OK}, {holding(make([]impl.Hold, 5)...), impl.ErrMany}, {holding(hold(5, 1), hold(5, 1)), impl.ErrRange}, {typing(true, 4), impl.ErrRange}}
	keys := append([]int64{1, 2, 5, 10, 39, 40}, noKeys...)
	for _, l := range binds {
		for _, x := range texts {
			for _, k := range boards {
				for i, key := range keys {
					want := firstCode(l.code, x.code, k.code, codeIf(i > 5, impl.ErrRange))
					r := impl.PressKey(l.list, x.texts, k.board, key)
					if want == impl.OK && !rightKey(r, pressed(l.list, x.texts, k.board, key)) || want != impl.OK && !onlyKeyCode(r, want) {
						t.Fatalf("PressKey(%v, %q, %v, %d) = %v, want %d", l.list, x.texts, k.board, key, r, want)
					}
				}
			}
		}
	}
}

// Each fault of each argument alone, whatever the key does.
func TestPressKeyFaultsAlone(t *testing.T) {
	board := withAccent(withCaps(holding(hold(1, 1))), 3)
	for key := int64(1); key <= 40; key++ {
		for _, x := range fewWrongLists() {
			if r := impl.PressKey(x.list, []string{"ls"}, board, key); !onlyKeyCode(r, x.code) {
				t.Fatalf("PressKey(%v) of key %d = %v, want %d", x.list, key, r, x.code)
			}
		}
		for _, x := range allWrongTexts() {
			if r := impl.PressKey(pressBinds(), x.texts, board, key); !onlyKeyCode(r, x.code) {
				t.Fatalf("PressKey with %q of key %d = %v, want %d", x.texts, key, r, x.code)
			}
		}
		for _, x := range wrongBoards() {
			if r := impl.PressKey(pressBinds(), []string{"ls"}, x.board, key); !onlyKeyCode(r, x.code) {
				t.Fatalf("PressKey at %v of key %d = %v, want %d", x.board, key, r, x.code)
			}
		}
	}
	for _, k := range goodKeyboards() {
		for _, key := range noKeys {
			if r := impl.PressKey(pressBinds(), []string{"ls"}, k, key); !onlyKeyCode(r, impl.ErrRange) {
				t.Fatalf("PressKey at %v of key %d = %v, want ErrRange", k, key, r)
			}
		}
	}
}

func TestLiftKeyFaults(t *testing.T) {
	for _, x := range wrongBoards() {
		for _, key := range append([]int64{1, 2, 5, 12, 39, 40}, noKeys...) {
			if r := impl.LiftKey(x.board, key); !onlyKeyCode(r, x.code) {
				t.Fatalf("LiftKey(%v, %d) = %v, want %d", x.board, key, r, x.code)
			}
		}
	}
	for _, k := range goodKeyboards() {
		for _, key := range noKeys {
			if r := impl.LiftKey(k, key); !onlyKeyCode(r, impl.ErrRange) {
				t.Fatalf("LiftKey(%v, %d) = %v, want ErrRange", k, key, r)
			}
		}
	}
}
