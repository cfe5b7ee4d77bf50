package tests

import (
	"slices"

	"loop.example/g00523/impl"
)

// model does on a screen what the document says, word by word, with the grids of the tests of chapter 3; it turns no
// list where it stands.
type model struct {
	impl.Screen
}

func modelled(s impl.Screen, list ...impl.Action) impl.Screen {
	m := &model{s}
	for _, a := range list {
		m.act(a)
	}
	return m.Screen
}

func (m *model) act(a impl.Action) {
	switch {
	case a.Kind == 1:
		m.printed(a.Char)
	case a.Kind == 2:
		m.controlled(a.Char)
	case a.Kind == 3:
		m.escaped(a.Char)
	case a.Kind == 4 && a.Private:
		m.private(a)
	case a.Kind == 4:
		m.sequenced(a)
	case a.Kind == 5:
		table, named := map[int64]int64{'B': 1, '0': 2, 'U': 3}[a.Char]
		if named {
			m.Sets = slices.Clone(m.Sets)
			m.Sets[a.Set-1] = table
		}
	}
}

// within is n, or the bound that it leaves.
func within(n, least, most int64) int64 {
	if n < least {
		return least
	}
	if n > most {
		return most
	}
	return n
}

func (m *model) toRow(y int64) {
	if m.Origin {
		m.Y = within(y, m.Top, m.Bottom)
	} else {
		m.Y = within(y, 0, m.Grid.Rows-1)
	}
	m.Wrap = false
}

func (m *model) toColumn(x int64) {
	m.X = within(x, 0, m.Grid.Width-1)
	m.Wrap = false
}

func (m *model) toHome() {
	m.Y, m.X, m.Wrap = 0, 0, false
	if m.Origin {
		m.Y = m.Top
	}
}

func (m *model) down() {
	if m.Y == m.Bottom {
		m.Grid = scrolled(m.Grid, m.Top, m.Bottom, 1, m.Attr)
	} else if m.Y < m.Grid.Rows-1 {
		m.Y++
	}
	m.Wrap = false
}

func (m *model) up() {
	if m.Y == m.Top {
		m.Grid = scrolled(m.Grid, m.Top, m.Bottom, -1, m.Attr)
	} else if m.Y > 0 {
		m.Y--
	}
	m.Wrap = false
}

func (m *model) printed(c int64) {
	if m.Wrap {
		m.X = 0
		m.down()
	}
	if m.Insert {
		m.Grid = shifted(m.Grid, m.Y, m.X, 1, m.Attr)
	}
	table := m.Sets[m.Shift]
	switch {
	case table == 2 && c >= 'a' && c <= 'z':
		c = 9472 + c - 'a'
	case table == 3 && c > 32 && c < 127:
		c = 61440 + c
	}
	m.Grid.Cells = slices.Clone(m.Grid.Cells)
	m.Grid.Cells[m.Y*m.Grid.Width+m.X] = cell(c, m.Attr)
	if m.X < m.Grid.Width-1 {
		m.X++
	} else if m.AutoWrap {
		m.Wrap = true
	}
}

func (m *model) controlled(c int64) {
	switch c {
	case 7:
		if m.Bells < 999 {
			m.Bells++
		}
	case 8:
		m.toColumn(m.X - 1)
	case 9:
		m.Wrap = false
		for m.X < m.Grid.Width-1 {
			m.X++
			if m.Tabs[m.X] {
				break
			}
		}
	case 10, 11, 12:
		m.down()
	case 13:
		m.toColumn(0)
	case 14:
		m.Shift = 1
	case 15:
		m.Shift = 0
	}
}

func (m *model) escaped(c int64) {
	switch c {
	case 'c':
		m.Screen = emptyScreen(m.Grid.Rows, m.Grid.Width)
	case 'D':
		m.down()
	case 'E':
		m.X = 0
		m.down()
	case 'H':
		m.Tabs = slices.Clone(m.Tabs)
		m.Tabs[m.X] = true
	case 'M':
		m.up()
	case '7':
		m.KeptY, m.KeptX, m.KeptAttr = m.Y, m.X, m.Attr
	case '8':
		m.toRow(m.KeptY)
		m.toColumn(m.KeptX)
		m.Attr = m.KeptAttr
	}
}

func (m *model) private(a impl.Action) {
	for _, n := range a.Params {
		switch {
		case n == 6 && (a.Char == 'h' || a.Char == 'l'):
			m.Origin = a.Char == 'h'
			m.toHome()
		case n == 7 && a.Char == 'h':
			m.AutoWrap = true
		case n == 7 && a.Char == 'l':
			m.AutoWrap, m.Wrap = false, false
		}
	}
}

func (m *model) sequenced(a impl.Action) {
	first, second := a.Params[0], int64(0)
	if len(a.Params) > 1 {
		second = a.Params[1]
	}
	n := max(first, 1)
	place := m.Y*m.Grid.Width + m.X
	row, end := m.Y*m.Grid.Width, (m.Y+1)*m.Grid.Width
	switch a.Char {
	case 'A', 'F', 'B', 'E':
		m.along(a.Char, n)
	case 'C':
		m.toColumn(m.X + n)
	case 'D':
		m.toColumn(m.X - n)
	case 'G', 96:
		m.toColumn(n - 1)
	case 'd', 'H', 'f':
		if m.Origin {
			m.toRow(m.Top + n - 1)
		} else {
			m.toRow(n - 1)
		}
		if a.Char != 'd' {
			m.toColumn(max(second, 1) - 1)
		}
	case 'J', 'K':
		if a.Char == 'J' {
			row, end = 0, m.Grid.Rows*m.Grid.Width
		}
		parts := [][2]int64{{place, end}, {row, place + 1}, {row, end}}
		if first < 3 {
			m.Grid = erased(m.Grid, parts[first][0], parts[first][1], m.Attr)
		}
	case 'X':
		m.Grid = erased(m.Grid, place, min(place+n, end), m.Attr)
	case 'L', 'M', 'S', 'T':
		m.scrolls(a.Char, n)
	case '@':
		m.Grid = shifted(m.Grid, m.Y, m.X, n, m.Attr)
	case 'P':
		m.Grid = shifted(m.Grid, m.Y, m.X, -n, m.Attr)
	default:
		m.settled(a, first, second)
	}
}

func (m *model) along(c, n int64) {
	for range n {
		switch {
		case c == 'A' || c == 'F':
			if m.Y != m.Top && m.Y != 0 {
				m.Y--
			}
		case m.Y != m.Bottom && m.Y != m.Grid.Rows-1:
			m.Y++
		}
	}
	if c == 'E' || c == 'F' {
		m.X = 0
	}
	m.Wrap = false
}

func (m *model) scrolls(c, n int64) {
	switch {
	case c == 'S':
		m.Grid = scrolled(m.Grid, m.Top, m.Bottom, n, m.Attr)
	case c == 'T':
		m.Grid = scrolled(m.Grid, m.Top, m.Bottom, -n, m.Attr)
	case m.Y < m.Top || m.Y > m.Bottom:
	case c == 'L':
		m.Grid = scrolled(m.Grid, m.Y, m.Bottom, -n, m.Attr)
	case c == 'M':
		back := m.Grid.Back
		m.Grid = scrolled(m.Grid, m.Y, m.Bottom, n, m.Attr)
		m.Grid.Back = back
	}
}

func (m *model) settled(a impl.Action, first, second int64) {
	switch a.Char {
	case 'h', 'l':
		for _, n := range a.Params {
			if n == 4 {
				m.Insert = a.Char == 'h'
			}
		}
	case 'm':
		for _, n := range a.Params {
			m.Attr = attrBehind(m.Attr, n)
		}
	case 'g':
		m.Tabs = slices.Clone(m.Tabs)
		for x := range m.Tabs {
			if first == 3 || first == 0 && int64(x) == m.X {
				m.Tabs[x] = false
			}
		}
	case 'r':
		if first == 0 {
			first = 1
		}
		if second == 0 {
			second = m.Grid.Rows
		}
		if first < second && second <= m.Grid.Rows {
			m.Top, m.Bottom = first-1, second-1
			m.toHome()
		}
	case 's':
		m.escaped('7')
	case 'u':
		m.escaped('8')
	}
}

// attrBehind takes an attribute apart, and puts it together again.
func attrBehind(attr, n int64) int64 {
	colour, bold, turned := attr%8, attr/8%2, attr/16
	switch n {
	case 0:
		colour, bold, turned = 0, 0, 0
	case 1, 22:
		bold = codeIf(n == 1, 1)
	case 7, 27:
		turned = codeIf(n == 7, 1)
	case 30, 31, 32, 33, 34, 35, 36, 37:
		colour = n - 30
	case 39:
		colour = 0
	}
	return colour + 8*bold + 16*turned
}
