package tests

import (
	"testing"

	"loop.example/g00523/impl"
)

// Each fault of a screen is told ahead of a row that is none; nothing is told beside it.
func TestDumpFaultIsAskedFirst(t *testing.T) {
	rows := append([]int64{0, 1, -1, 2, 6, 99}, bigNumbers[:4]...)
	for _, x := range wrongScreens() {
		if r := impl.DumpScreen(x.screen); !onlyBytesCode(r, x.code) {
			t.Fatalf("DumpScreen(%v) = %v, want %d", x.screen, r, x.code)
		}
		for _, y := range rows {
			if r := impl.RowBytes(x.screen, y); !onlyBytesCode(r, x.code) {
				t.Fatalf("row %d of %v = %v, want %d", y, x.screen, r, x.code)
			}
		}
	}
}

func TestDumpFaultOfGrids(t *testing.T) {
	for _, x := range wrongGrids() {
		s := impl.Screen{Grid: x.grid, Bottom: x.grid.Rows - 1, Sets: []int64{1, 1}}
		for _, r := range []impl.BytesResult{impl.DumpScreen(s), impl.RowBytes(s, 0), impl.RowBytes(s, -1), impl.RowBytes(s, x.grid.Rows)} {
			if !onlyBytesCode(r, x.code) {
				t.Fatalf("of %v: %v, want %d", x.grid, r, x.code)
			}
		}
	}
}

// Where Origin is not as told the screen has a fault, whatever the region: no place is counted from it.
func TestDumpFaultOfOrigin(t *testing.T) {
	for y := range int64(4) {
		s := screenOfSize(4, 3, 0)
		s.Y, s.Top, s.Bottom, s.Origin = y, 1, 2, true
		want := codeIf(y < 1 || y > 2, impl.ErrForm)
		for _, r := range []impl.BytesResult{impl.DumpScreen(s), impl.RowBytes(s, 0), impl.RowBytes(s, 3)} {
			if r.Code != want || (len(r.Bytes) == 0) != (want != impl.OK) {
				t.Errorf("with the place in row %d: %v, want %d", y, r, want)
			}
		}
	}
}
