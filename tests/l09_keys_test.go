package tests

import (
	"cmp"
	"math/rand/v2"
	"slices"
	"testing"
	"unicode"

	"loop.example/g00523/impl"
)

// sameBoard asks without the program whether all of two keyboards is the same.
func sameBoard(a, b impl.Keyboard) bool {
	return slices.Equal(a.Holds, b.Holds) && a.Caps == b.Caps && a.Accent == b.Accent
}

func rightKey(r, want impl.KeyResult) bool {
	return r.Code == want.Code && string(r.Bytes) == string(want.Bytes) && r.Console == want.Console && sameBoard(r.Keyboard, want.Keyboard) && impl.KeyboardFault(r.Keyboard) == impl.OK
}

// onlyKeyCode tells whether an answer has that code and nothing beside it.
func onlyKeyCode(r impl.KeyResult, code int64) bool {
	return r.Code == code && len(r.Bytes) == 0 && r.Console == 0 && sameBoard(r.Keyboard, impl.Keyboard{})
}

// onlyBoard tells whether an answer is that keyboard, and types and chooses nothing.
func onlyBoard(r impl.KeyResult, want impl.Keyboard) bool {
	return rightKey(r, impl.KeyResult{Keyboard: want})
}

// pressBinds have each kind of sym, by these Mods, by Mods 0 alone, and by other Mods alone.
func pressBinds() []impl.Bind {
	return []impl.Bind{
		bind(1, 0, impl.SymMod, 1), bind(2, 0, impl.SymMod, 1), bind(3, 0, impl.SymMod, 2),
		bind(4, 0, impl.SymMod, 4), bind(4, 1, impl.SymMod, 2),
		bind(5, 0, impl.SymLock, 0),
		bind(6, 0, impl.SymDead, 1), bind(7, 0, impl.SymDead, 2), bind(7, 1, impl.SymDead, 3),
		bind(8, 0, impl.SymConsole, 0), bind(8, 1, impl.SymConsole, 1), bind(8, 2, impl.SymConsole, 2),
		bind(9, 0, impl.SymText, 0), bind(9, 1, impl.SymText, 1), bind(9, 2, impl.SymText, 2), bind(9, 4, impl.SymText, 3),
		bind(10, 0, impl.SymChar, 'a'), bind(10, 1, impl.SymChar, 'E'), bind(10, 2, impl.SymNone, 0), bind(10, 3, impl.SymChar, 'x'),
		bind(12, 1, impl.SymChar, 8364),
		bind(13, 0, impl.SymNone, 0),
		bind(40, 0, impl.SymMod, 4),
	}
}

var pressTexts = []string{"ls", "", "\xc3\n", "0123456789"}

// modsByHand is what the holds come to, bit by bit.
func modsByHand(holds []impl.Hold) int64 {
	var mods int64
	for _, bit := range []int64{1, 2, 4} {
		if slices.ContainsFunc(holds, func(h impl.Hold) bool { return h.Bit == bit }) {
			mods += bit
		}
	}
	return mods
}

// typedText is what a character types, by the library's letters and the tests' own table of those with accents.
func typedText(c int64, caps bool, accent int64) string {
	if caps && c < 128 && unicode.IsLower(rune(c)) {
		c = int64(unicode.ToUpper(rune(c)))
	} else if caps && c < 128 {
		c = int64(unicode.ToLower(rune(c)))
	}
	if accent == 0 {
		return string(rune(c))
	}
	if whole, there := composed[accent][c]; there {
		return string(rune(whole))
	}
	return "`'\""[accent-1:accent] + string(rune(c))
}

// pressed is what a key answers that goes down, where nothing has a fault.
func pressed(list []impl.Bind, texts []string, k impl.Keyboard, key int64) impl.KeyResult {
	r := impl.KeyResult{Keyboard: k}
	s := toldBy(list, key, modsByHand(k.Holds))
	switch s.Kind {
	case impl.SymMod:
		if len(k.Holds) < 4 && !slices.ContainsFunc(k.Holds, func(h impl.Hold) bool { return h.Key == key }) {
			r.Keyboard.Holds = append(slices.Clone(k.Holds), hold(key, s.Value))
			slices.SortFunc(r.Keyboard.Holds, func(a, b impl.Hold) int { return cmp.Compare(a.Key, b.Key) })
		}
	case impl.SymLock:
		r.Keyboard.Caps = !k.Caps
	case impl.SymDead:
		r.Keyboard.Accent = s.Value
	case impl.SymConsole:
		r.Console = s.Value + 1
	case impl.SymText:
		if int(s.Value) < len(texts) {
			r.Bytes = []byte(texts[s.Value])
		}
	case impl.SymChar:
		r.Bytes = []byte(typedText(s.Value, k.Caps, k.Accent))
		r.Keyboard.Accent = 0
	}
	return r
}

func TestModsOf(t *testing.T) {
	for _, x := range []struct {
		holds []impl.Hold
		want  int64
	}{
		{nil, 0}, {[]impl.Hold{}, 0},
		{[]impl.Hold{hold(5, 1)}, 1}, {[]impl.Hold{hold(5, 2)}, 2}, {[]impl.Hold{hold(5, 4)}, 4},
		{[]impl.Hold{hold(5, 1), hold(6, 2)}, 3}, {[]impl.Hold{hold(5, 4), hold(6, 1)}, 5}, {[]impl.Hold{hold(5, 2), hold(6, 4)}, 6},
		{[]impl.Hold{hold(1, 1), hold(20, 2), hold(40, 4)}, 7}, {[]impl.Hold{hold(1, 4), hold(20, 2), hold(40, 1)}, 7},
		// A bit that several keys hold counts once.
		{[]impl.Hold{hold(5, 1), hold(6, 1)}, 1}, {[]impl.Hold{hold(5, 2), hold(6, 2)}, 2}, {[]impl.Hold{hold(5, 4), hold(6, 4)}, 4},
		{[]impl.Hold{hold(5, 1), hold(6, 1), hold(7, 2)}, 3}, {[]impl.Hold{hold(5, 1), hold(6, 4), hold(7, 1)}, 5},
		{[]impl.Hold{hold(5, 2), hold(6, 2), hold(7, 2), hold(8, 2)}, 2}, {[]impl.Hold{hold(5, 2), hold(6, 1), hold(7, 4), hold(8, 2)}, 7}, {[]impl.Hold{hold(5, 1), hold(6, 1), hold(7, 2), hold(8, 2)}, 3},
	} {
		for accent := range int64(4) {
			k := withAccent(holding(x.holds...), accent)
			for _, one := range []impl.Keyboard{k, withCaps(k)} {
				if r := impl.ModsOf(one); r != (impl.IntResult{Value: x.want}) {
					t.Errorf("ModsOf(%v) = %v, want %d", one, r, x.want)
				}
			}
		}
	}
}

// pressRow is a key that goes down at a keyboard with pressBinds and pressTexts, and what it answers.
type pressRow struct {
	board   impl.Keyboard
	key     int64
	bytes   string
	console int64
	then    impl.Keyboard
}

func wantPressed(t *testing.T, rows []pressRow) {
	t.Helper()
	for _, x := range rows {
		want := impl.KeyResult{Bytes: []byte(x.bytes), Console: x.console, Keyboard: x.then}
		if r := impl.PressKey(pressBinds(), pressTexts, x.board, x.key); !rightKey(r, want) {
			t.Errorf("PressKey at %v of key %d = %v, want %v", x.board, x.key, r, want)
		}
	}
}

func TestPressModsByHand(t *testing.T) {
	three := []impl.Hold{hold(2, 1), hold(3, 2), hold(40, 4)}
	four := []impl.Hold{hold(2, 1), hold(3, 1), hold(4, 1), hold(40, 4)}
	wantPressed(t, []pressRow{
		// With no hold.
		{impl.Keyboard{}, 1, "", 0, holding(hold(1, 1))},
		{impl.Keyboard{}, 3, "", 0, holding(hold(3, 2))},
		{impl.Keyboard{}, 40, "", 0, holding(hold(40, 4))},
		{withAccent(withCaps(impl.Keyboard{}), 2), 4, "", 0, withAccent(withCaps(holding(hold(4, 4))), 2)},
		// With a hold of the same key: it keeps the bit that it holds, whatever it is bound to now.
		{holding(hold(1, 1)), 1, "", 0, holding(hold(1, 1))},
		{holding(hold(1, 4)), 1, "", 0, holding(hold(1, 4))},
		{holding(hold(4, 1)), 4, "", 0, holding(hold(4, 1))},
		{holding(hold(1, 1), hold(4, 4)), 4, "", 0, holding(hold(1, 1), hold(4, 4))},
		{holding(hold(2, 1), hold(3, 2), hold(40, 4)), 3, "", 0, holding(hold(2, 1), hold(3, 2), hold(40, 4))},
		{holding(four...), 40, "", 0, holding(four...)},
		// With a hold of another key of the same bit.
		{holding(hold(2, 1)), 1, "", 0, holding(hold(1, 1), hold(2, 1))},
		{holding(hold(1, 1)), 2, "", 0, holding(hold(1, 1), hold(2, 1))},
		{holding(hold(20, 4)), 40, "", 0, holding(hold(20, 4), hold(40, 4))},
		// By the mods that are held, and by none.
		{holding(hold(1, 1)), 4, "", 0, holding(hold(1, 1), hold(4, 2))},
		{holding(hold(3, 2)), 4, "", 0, holding(hold(3, 2), hold(4, 4))},
		{holding(hold(1, 1), hold(3, 2)), 4, "", 0, holding(hold(1, 1), hold(3, 2), hold(4, 4))},
		// Into each place of three, and none of four.
		{holding(three...), 1, "", 0, holding(hold(1, 1), hold(2, 1), hold(3, 2), hold(40, 4))},
		{holding(hold(1, 1), hold(3, 2), hold(40, 4)), 2, "", 0, holding(hold(1, 1), hold(2, 1), hold(3, 2), hold(40, 4))},
		{holding(three...), 4, "", 0, holding(hold(2, 1), hold(3, 2), hold(4, 4), hold(40, 4))},
		{holding(hold(1, 1), hold(2, 1), hold(3, 2)), 40, "", 0, holding(hold(1, 1), hold(2, 1), hold(3, 2), hold(40, 4))},
		{holding(four...), 1, "", 0, holding(four...)},
		{withAccent(withCaps(holding(four...)), 1), 1, "", 0, withAccent(withCaps(holding(four...)), 1)},
		{holding(hold(1, 1), hold(2, 1), hold(3, 2), hold(4, 4)), 40, "", 0, holding(hold(1, 1), hold(2, 1), hold(3, 2), hold(4, 4))},
	})
}

func TestPressOthersByHand(t *testing.T) {
	one, two, four, both := holding(hold(1, 1)), holding(hold(3, 2)), holding(hold(4, 4)), holding(hold(1, 1), hold(3, 2))
	wantPressed(t, []pressRow{
		// SymNone, and keys that are not bound, or not with these mods.
		{impl.Keyboard{}, 13, "", 0, impl.Keyboard{}},
		{withAccent(withCaps(two), 3), 13, "", 0, withAccent(withCaps(two), 3)},
		{withAccent(two, 2), 10, "", 0, withAccent(two, 2)},
		{withAccent(withCaps(one), 1), 39, "", 0, withAccent(withCaps(one), 1)},
		{impl.Keyboard{}, 12, "", 0, impl.Keyboard{}},
		{withAccent(both, 1), 12, "", 0, withAccent(both, 1)},
		// SymLock.
		{impl.Keyboard{}, 5, "", 0, typing(true, 0)},
		{typing(true, 0), 5, "", 0, impl.Keyboard{}},
		{withAccent(both, 3), 5, "", 0, withAccent(withCaps(both), 3)},
		{withAccent(withCaps(both), 3), 5, "", 0, withAccent(both, 3)},
		// SymDead, with none that waits and instead of one that does.
		{impl.Keyboard{}, 6, "", 0, typing(false, 1)},
		{impl.Keyboard{}, 7, "", 0, typing(false, 2)},
		{withCaps(one), 7, "", 0, withAccent(withCaps(one), 3)},
		{typing(false, 1), 6, "", 0, typing(false, 1)},
		{typing(false, 3), 6, "", 0, typing(false, 1)},
		{typing(true, 1), 7, "", 0, typing(true, 2)},
		{withAccent(one, 2), 7, "", 0, withAccent(one, 3)},
		// SymConsole.
		{impl.Keyboard{}, 8, "", 1, impl.Keyboard{}},
		{one, 8, "", 2, one},
		{withAccent(withCaps(two), 2), 8, "", 3, withAccent(withCaps(two), 2)},
		{both, 8, "", 1, both},
		// SymText: an accent goes on waiting, and Caps turns none.
		{impl.Keyboard{}, 9, "ls", 0, impl.Keyboard{}},
		{one, 9, "", 0, one},
		{two, 9, "\xc3\n", 0, two},
		{four, 9, "0123456789", 0, four},
		{both, 9, "ls", 0, both},
		{withAccent(withCaps(both), 3), 9, "ls", 0, withAccent(withCaps(both), 3)},
		{withAccent(one, 1), 9, "", 0, withAccent(one, 1)},
		// SymChar by the mods that are held, by others, and by none.
		{impl.Keyboard{}, 10, "a", 0, impl.Keyboard{}},
		{one, 10, "E", 0, one},
		{both, 10, "x", 0, both},
		{four, 10, "a", 0, four},
		{withAccent(withCaps(both), 3), 10, "\"X", 0, withCaps(both)},
		{withAccent(one, 2), 10, "É", 0, one},
		{withAccent(withCaps(one), 1), 10, "è", 0, withCaps(one)},
		{one, 12, "€", 0, one},
		{withAccent(withCaps(one), 1), 12, "`€", 0, withCaps(one)},
	})
}

// Each number of a text with as many texts, with fewer, and with an empty one.
func TestPressTextByHand(t *testing.T) {
	for number := range int64(4) {
		list := []impl.Bind{bind(7, 0, impl.SymText, number)}
		for n := range 5 {
			want := ""
			if int(number) < n {
				want = pressTexts[number]
			}
			for _, k := range []impl.Keyboard{{}, typing(true, 0), typing(false, 2), withCaps(holding(hold(7, 1)))} {
				if r := impl.PressKey(list, pressTexts[:n], k, 7); !rightKey(r, impl.KeyResult{Bytes: []byte(want), Keyboard: k}) {
					t.Errorf("text %d of %d at %v: %v, want %q", number, n, k, r, want)
				}
			}
		}
	}
}

func TestPressCharByHand(t *testing.T) {
	for _, x := range []struct {
		char  int64
		plain [4]string
		caps  [4]string
	}{
		// Letters that compose: with no accent and each of them, without Caps and with.
		{'a', [4]string{"a", "à", "á", "ä"}, [4]string{"A", "À", "Á", "Ä"}},
		{'A', [4]string{"A", "À", "Á", "Ä"}, [4]string{"a", "à", "á", "ä"}},
		{'o', [4]string{"o", "ò", "ó", "ö"}, [4]string{"O", "Ò", "Ó", "Ö"}},
		{'O', [4]string{"O", "Ò", "Ó", "Ö"}, [4]string{"o", "ò", "ó", "ö"}},
		{'e', [4]string{"e", "è", "é", "\"e"}, [4]string{"E", "È", "É", "\"E"}},
		{'U', [4]string{"U", "`U", "'U", "Ü"}, [4]string{"u", "`u", "'u", "ü"}},
		// Others, at the bounds of the letters.
		{'z', [4]string{"z", "`z", "'z", "\"z"}, [4]string{"Z", "`Z", "'Z", "\"Z"}},
		{'Z', [4]string{"Z", "`Z", "'Z", "\"Z"}, [4]string{"z", "`z", "'z", "\"z"}},
		{'@', [4]string{"@", "`@", "'@", "\"@"}, [4]string{"@", "`@", "'@", "\"@"}},
		{'[', [4]string{"[", "`[", "'[", "\"["}, [4]string{"[", "`[", "'[", "\"["}},
		{'`', [4]string{"`", "``", "'`", "\"`"}, [4]string{"`", "``", "'`", "\"`"}},
		{'{', [4]string{"{", "`{", "'{", "\"{"}, [4]string{"{", "`{", "'{", "\"{"}},
		{'7', [4]string{"7", "`7", "'7", "\"7"}, [4]string{"7", "`7", "'7", "\"7"}},
		{0, [4]string{"\x00", "`\x00", "'\x00", "\"\x00"}, [4]string{"\x00", "`\x00", "'\x00", "\"\x00"}},
		{13, [4]string{"\r", "`\r", "'\r", "\"\r"}, [4]string{"\r", "`\r", "'\r", "\"\r"}},
		{127, [4]string{"\x7f", "`\x7f", "'\x7f", "\"\x7f"}, [4]string{"\x7f", "`\x7f", "'\x7f", "\"\x7f"}},
		// Characters of two and three bytes: Caps turns no letter of them.
		{128, [4]string{"\xc2\x80", "`\xc2\x80", "'\xc2\x80", "\"\xc2\x80"}, [4]string{"\xc2\x80", "`\xc2\x80", "'\xc2\x80", "\"\xc2\x80"}},
		{228, [4]string{"\xc3\xa4", "`ä", "'ä", "\"ä"}, [4]string{"ä", "`ä", "'ä", "\"ä"}},
		{196, [4]string{"\xc3\x84", "`Ä", "'Ä", "\"Ä"}, [4]string{"Ä", "`Ä", "'Ä", "\"Ä"}},
		{2047, [4]string{"\xdf\xbf", "`\xdf\xbf", "'\xdf\xbf", "\"\xdf\xbf"}, [4]string{"\xdf\xbf", "`\xdf\xbf", "'\xdf\xbf", "\"\xdf\xbf"}},
		{2048, [4]string{"\xe0\xa0\x80", "`\xe0\xa0\x80", "'\xe0\xa0\x80", "\"\xe0\xa0\x80"}, [4]string{"\xe0\xa0\x80", "`\xe0\xa0\x80", "'\xe0\xa0\x80", "\"\xe0\xa0\x80"}},
		{8364, [4]string{"\xe2\x82\xac", "`€", "'€", "\"€"}, [4]string{"€", "`€", "'€", "\"€"}},
		{65535, [4]string{"\xef\xbf\xbf", "`\xef\xbf\xbf", "'\xef\xbf\xbf", "\"\xef\xbf\xbf"}, [4]string{"\xef\xbf\xbf", "`\xef\xbf\xbf", "'\xef\xbf\xbf", "\"\xef\xbf\xbf"}},
	} {
		list := []impl.Bind{bind(11, 0, impl.SymChar, x.char)}
		for accent := range int64(4) {
			for _, caps := range []bool{false, true} {
				text := x.plain[accent]
				if caps {
					text = x.caps[accent]
				}
				want := impl.KeyResult{Bytes: []byte(text), Keyboard: typing(caps, 0)}
				if r := impl.PressKey(list, nil, typing(caps, accent), 11); !rightKey(r, want) {
					t.Errorf("character %d at %v types %v, want %q", x.char, typing(caps, accent), r, text)
				}
			}
		}
	}
}

// Every character, with Caps and without, with each accent and none.
func TestPressEveryChar(t *testing.T) {
	for c := range int64(65536) {
		if isSurrogate(c) {
			continue
		}
		list := []impl.Bind{bind(40, 0, impl.SymChar, c)}
		for i := range int64(8) {
			caps, accent := i%2 == 1, i/2
			want := impl.KeyResult{Bytes: []byte(typedText(c, caps, accent)), Keyboard: typing(caps, 0)}
			if r := impl.PressKey(list, nil, typing(caps, accent), 40); !rightKey(r, want) {
				t.Fatalf("character %d at %v types %v, want %v", c, typing(caps, accent), r, want)
			}
		}
	}
}

// Every key with every good list of binds and of texts, at every good keyboard.
func TestPressKeyEverywhere(t *testing.T) {
	for i, list := range append(goodBinds(), pressBinds()) {
		for _, k := range goodKeyboards() {
			for key := int64(1); key <= 40; key++ {
				texts := goodTexts()[(i+int(key)+len(k.Holds))%len(goodTexts())]
				want := pressed(list, texts, k, key)
				if r := impl.PressKey(list, texts, k, key); !rightKey(r, want) {
					t.Fatalf("PressKey(%v, %q, %v, %d) = %v, want %v", list, texts, k, key, r, want)
				}
			}
		}
	}
}

// Each sym at each keyboard, bound with Mods 0, with the mods that are held, and with others.
func TestPressEverySym(t *testing.T) {
	for _, s := range goodSyms() {
		for _, k := range goodKeyboards() {
			mods := modsByHand(k.Holds)
			for _, m := range []int64{0, mods, (mods + 1) % 8} {
				for _, key := range []int64{1, 3, 20, 40} {
					list := []impl.Bind{{Key: key, Mods: m, Sym: s}}
					want := pressed(list, pressTexts, k, key)
					if r := impl.PressKey(list, pressTexts, k, key); !rightKey(r, want) {
						t.Fatalf("PressKey(%v, %v, %d) = %v, want %v", list, k, key, r, want)
					}
				}
			}
		}
	}
}

func TestLiftKeyByHand(t *testing.T) {
	four := []impl.Hold{hold(1, 1), hold(3, 2), hold(20, 1), hold(40, 4)}
	for _, x := range []struct {
		board impl.Keyboard
		key   int64
		then  impl.Keyboard
	}{
		// A key that holds, at each place of the list.
		{holding(four...), 1, holding(hold(3, 2), hold(20, 1), hold(40, 4))},
		{holding(four...), 3, holding(hold(1, 1), hold(20, 1), hold(40, 4))},
		{holding(four...), 20, holding(hold(1, 1), hold(3, 2), hold(40, 4))},
		{holding(four...), 40, holding(hold(1, 1), hold(3, 2), hold(20, 1))},
		{holding(hold(1, 4)), 1, impl.Keyboard{}},
		{holding(hold(40, 1)), 40, impl.Keyboard{}},
		{withAccent(withCaps(holding(hold(7, 2), hold(8, 2))), 3), 7, withAccent(withCaps(holding(hold(8, 2))), 3)},
		// One that holds nothing.
		{impl.Keyboard{}, 1, impl.Keyboard{}},
		{impl.Keyboard{}, 40, impl.Keyboard{}},
		{typing(true, 2), 5, typing(true, 2)},
		{holding(four...), 2, holding(four...)},
		{holding(four...), 19, holding(four...)},
		{holding(four...), 39, holding(four...)},
		{withAccent(withCaps(holding(four...)), 1), 21, withAccent(withCaps(holding(four...)), 1)},
	} {
		if r := impl.LiftKey(x.board, x.key); !onlyBoard(r, x.then) {
			t.Errorf("LiftKey(%v, %d) = %v, want %v", x.board, x.key, r, x.then)
		}
	}
}

func TestLiftKeyEverywhere(t *testing.T) {
	for _, k := range goodKeyboards() {
		for key := int64(-2); key <= 43; key++ {
			r := impl.LiftKey(k, key)
			if key < 1 || key > 40 {
				if !onlyKeyCode(r, impl.ErrRange) {
					t.Fatalf("LiftKey(%v, %d) = %v, want ErrRange", k, key, r)
				}
				continue
			}
			want := k
			want.Holds = slices.DeleteFunc(slices.Clone(k.Holds), func(h impl.Hold) bool { return h.Key == key })
			if !onlyBoard(r, want) {
				t.Fatalf("LiftKey(%v, %d) = %v, want %v", k, key, r, want)
			}
			if again := impl.LiftKey(r.Keyboard, key); !onlyBoard(again, want) {
				t.Fatalf("LiftKey(%v, %d) once more = %v, want %v", k, key, again, want)
			}
		}
	}
}

// A key that holds a bit holds just that, whatever keys go down and up, until it goes up itself; and nothing else lets it hold one.
func TestHeldUntilLifted(t *testing.T) {
	r := rand.New(rand.NewPCG(9, 29))
	lists := append(goodBinds(), pressBinds())
	for round := range 4000 {
		list := lists[round%len(lists)]
		if round%2 == 0 {
			list = pressBinds()
		}
		var k impl.Keyboard
		held := map[int64]int64{}
		for range 40 {
			key := []int64{1, 2, 3, 4, 5, 6, 7, 8, 9, 10, 40}[r.IntN(11)]
			was := k
			if r.IntN(3) == 0 {
				k = impl.LiftKey(k, key).Keyboard
				delete(held, key)
			} else {
				k = impl.PressKey(list, pressTexts, k, key).Keyboard
				s := toldBy(list, key, modsByHand(was.Holds))
				if _, there := held[key]; !there && s.Kind == impl.SymMod && len(held) < 4 {
					held[key] = s.Value
				}
			}
			for _, h := range k.Holds {
				if held[h.Key] != h.Bit {
					t.Fatalf("with %v from %v key %d led to %v, but %v are held", list, was, key, k, held)
				}
			}
			if len(k.Holds) != len(held) || impl.KeyboardFault(k) != impl.OK {
				t.Fatalf("with %v from %v key %d led to %v, but %v are held", list, was, key, k, held)
			}
		}
	}
}

// A lock that is pressed twice is as it was, whatever is held and waits, and whether it goes up in between or not.
func TestLockTwice(t *testing.T) {
	for _, k := range goodKeyboards() {
		for _, key := range []int64{1, 5, 40} {
			list := []impl.Bind{bind(key, 0, impl.SymLock, 0)}
			other := k
			other.Caps = !k.Caps
			once := impl.PressKey(list, nil, k, key)
			if !onlyBoard(once, other) {
				t.Fatalf("lock %d at %v leads to %v", key, k, once)
			}
			if twice := impl.PressKey(list, nil, once.Keyboard, key); !onlyBoard(twice, k) {
				t.Fatalf("lock %d twice at %v leads to %v", key, k, twice)
			}
			lifted := impl.LiftKey(once.Keyboard, key).Keyboard
			if twice := impl.PressKey(list, nil, lifted, key); !onlyBoard(twice, impl.LiftKey(k, key).Keyboard) {
				t.Fatalf("lock %d down, up and down at %v leads to %v", key, k, twice)
			}
		}
	}
}

// An accent waits until a character is typed, with that accent alone, and the next one is typed without.
func TestAccentWaits(t *testing.T) {
	for _, accents := range [][]int64{{1}, {2}, {3}, {1, 1}, {1, 2}, {3, 1}, {2, 3, 1}} {
		for _, letter := range []int64{'a', 'E', 'u', 'x', '0', 228, 8364} {
			for _, caps := range []bool{false, true} {
				list := []impl.Bind{bind(1, 0, 5, 1), bind(2, 0, 5, 2), bind(3, 0, 5, 3), bind(4, 0, 1, letter), bind(5, 0, 2, 0), bind(6, 0, 3, 4), bind(7, 0, 6, 1), bind(8, 0, 4, 0)}
				k := typing(caps, 0)
				for _, accent := range accents {
					k = impl.PressKey(list, pressTexts, k, accent).Keyboard
				}
				last := accents[len(accents)-1]
				// Nothing of all this takes the accent that waits; the lock goes down twice.
				for _, key := range []int64{5, 6, 7, 8, 8, 9, 40} {
					k = impl.PressKey(list, pressTexts, k, key).Keyboard
				}
				k = impl.LiftKey(k, 6).Keyboard
				first := impl.PressKey(list, pressTexts, k, 4)
				second := impl.PressKey(list, pressTexts, first.Keyboard, 4)
				if k.Accent != last || string(first.Bytes) != typedText(letter, caps, last) || first.Keyboard.Accent != 0 {
					t.Errorf("with %v waiting at %v %d types %v", accents, k, letter, first)
				}
				if string(second.Bytes) != typedText(letter, caps, 0) || !sameBoard(second.Keyboard, typing(caps, 0)) {
					t.Errorf("behind %v at %v %d types %v", accents, k, letter, second)
				}
			}
		}
	}
}
