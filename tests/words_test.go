package tests

import (
	"math"
	"slices"
	"strconv"
	"strings"
	"testing"

	"loop.example/g00127/impl"
)

// everyByte has each of the 256 bytes once.
func everyByte() string {
	all := make([]byte, 256)
	for i := range all {
		all[i] = byte(i)
	}
	return string(all)
}

// longText has so many bytes, of which neighbours are unlike.
func longText(size int) string {
	return strings.Repeat(everyByte(), size/256+1)[:size]
}

// wrongPlaces are none in a text of this length.
func wrongPlaces(size int) []int {
	return []int{-1, -2, math.MinInt, size + 1, size + 2, math.MaxInt}
}

// someNumbers are in 0 .. MaxNumber: small ones, and those about each change of length.
func someNumbers() []int {
	list := []int{impl.MaxNumber - 1, impl.MaxNumber}
	for n := range 40000 {
		list = append(list, n)
	}
	for _, unit := range []int{10, 128} {
		for n := unit; n <= impl.MaxNumber; n *= unit {
			for near := max(n-2, 0); near <= min(n+2, impl.MaxNumber); near++ {
				list = append(list, near)
			}
		}
	}
	return list
}

func wantVar(t *testing.T, text string, at, number, behind int) {
	t.Helper()
	n, place, ok := impl.ReadVar(text, at)
	if !ok || n != number || place != behind {
		t.Errorf("ReadVar(%q, %d) = %d, %d, %v; want %d, %d, true", text, at, n, place, ok, number, behind)
	}
}

func refuseVar(t *testing.T, text string, at int) {
	t.Helper()
	if n, place, ok := impl.ReadVar(text, at); ok || n != 0 || place != 0 {
		t.Errorf("ReadVar(%q, %d) = %d, %d, %v; want 0, 0, false", text, at, n, place, ok)
	}
}

func wantShort(t *testing.T, text string, at int, short string, behind int) {
	t.Helper()
	s, place, ok := impl.ReadShort(text, at)
	if !ok || s != short || place != behind {
		t.Errorf("ReadShort(%.40q, %d) = %.40q, %d, %v; want %.40q, %d, true", text, at, s, place, ok, short, behind)
	}
}

func refuseShort(t *testing.T, text string, at int) {
	t.Helper()
	if s, place, ok := impl.ReadShort(text, at); ok || s != "" || place != 0 {
		t.Errorf("ReadShort(%.40q, %d) = %.40q, %d, %v; want nothing", text, at, s, place, ok)
	}
}

func TestVarTextBytes(t *testing.T) {
	cases := []struct {
		number int
		text   string
	}{
		{0, "\x00"}, {1, "\x01"}, {127, "\x7f"},
		{128, "\x80\x01"}, {129, "\x81\x01"}, {255, "\xff\x01"}, {300, "\xac\x02"}, {16383, "\xff\x7f"},
		{16384, "\x80\x80\x01"}, {2097151, "\xff\xff\x7f"}, {2097152, "\x80\x80\x80\x01"},
		{268435455, "\xff\xff\xff\x7f"}, {268435456, "\x80\x80\x80\x80\x01"},
		{impl.MaxNumber - 1, "\xff\x93\xeb\xdc\x03"}, {impl.MaxNumber, "\x80\x94\xeb\xdc\x03"},
	}
	for _, c := range cases {
		if s, ok := impl.VarText(c.number); !ok || s != c.text {
			t.Errorf("VarText(%d) = %q, %v; want %q, true", c.number, s, ok, c.text)
		}
		wantVar(t, c.text, 0, c.number, len(c.text))
	}
}

func TestVarTextRefuses(t *testing.T) {
	for _, n := range []int{-1, -128, math.MinInt, impl.MaxNumber + 1, impl.MaxNumber + 128, 1 << 32, math.MaxInt} {
		if s, ok := impl.VarText(n); ok || s != "" {
			t.Errorf("VarText(%d) = %q, %v; want nothing", n, s, ok)
		}
	}
}

func TestVarTextReadBack(t *testing.T) {
	for _, n := range someNumbers() {
		s, ok := impl.VarText(n)
		if !ok {
			t.Fatalf("VarText(%d) is false", n)
		}
		wantVar(t, s, 0, n, len(s))
		wantVar(t, "\x80"+s+"\x81\x00", 1, n, 1+len(s))
		for cut := range len(s) {
			refuseVar(t, s[:cut], 0)
		}
	}
}

// Every text of one and two bytes is read as the VarText it begins with, and as nothing else.
func TestReadVarOfAllShortTexts(t *testing.T) {
	begins := map[string]int{}
	for n := range 1 << 14 {
		s, _ := impl.VarText(n)
		begins[s] = n
	}
	if len(begins) != 1<<14 {
		t.Fatalf("%d texts for %d numbers", len(begins), 1<<14)
	}
	for i := range 1 << 16 {
		text := string([]byte{byte(i >> 8), byte(i)})
		if n, ok := begins[text[:1]]; ok {
			wantVar(t, text, 0, n, 1)
		} else if n, ok := begins[text]; ok {
			wantVar(t, text, 0, n, 2)
		} else {
			refuseVar(t, text, 0)
		}
	}
}

func TestReadVarRefusesLongerForms(t *testing.T) {
	for _, n := range []int{0, 1, 127, 128, 300, 16384, 268435456, impl.MaxNumber} {
		s, _ := impl.VarText(n)
		last := len(s) - 1
		for extra := range 12 {
			longer := s[:last] + string([]byte{s[last] | 128}) + strings.Repeat("\x80", extra) + "\x00"
			refuseVar(t, longer, 0)
			refuseVar(t, "\x05"+longer+"\x07", 1)
		}
	}
}

func TestReadVarRefusesGreaterNumbers(t *testing.T) {
	for _, text := range []string{
		"\x81\x94\xeb\xdc\x03", "\x80\x95\xeb\xdc\x03", "\x80\x80\x80\x80\x04", "\xff\xff\xff\xff\x7f",
		"\x80\x80\x80\x80\x80\x01", "\x80\x80\x80\x80\x80\x80\x80\x80\x80\x01",
		strings.Repeat("\x80", 63) + "\x01", strings.Repeat("\xff", impl.MaxText) + "\x01", strings.Repeat("\x80", 64),
	} {
		refuseVar(t, text, 0)
	}
}

func TestReadVarPlaces(t *testing.T) {
	text := "\x07\xac\x02\x00"
	wantVar(t, text, 0, 7, 1)
	wantVar(t, text, 1, 300, 3)
	wantVar(t, text, 2, 2, 3)
	wantVar(t, text, 3, 0, 4)
	refuseVar(t, text, len(text))
	refuseVar(t, "", 0)
	for _, at := range wrongPlaces(len(text)) {
		refuseVar(t, text, at)
	}
	for _, at := range wrongPlaces(0) {
		refuseVar(t, "", at)
	}
}

func TestShortTextBytes(t *testing.T) {
	for _, c := range []struct{ short, text string }{
		{"", "\x00"}, {"a", "\x01a"}, {"\x00", "\x01\x00"}, {"\xff\x80", "\x02\xff\x80"},
		{longText(127), "\x7f" + longText(127)}, {longText(128), "\x80\x01" + longText(128)},
		{longText(impl.MaxText), "\xa0\x9c\x01" + longText(impl.MaxText)},
	} {
		if s, ok := impl.ShortText(c.short); !ok || s != c.text {
			t.Errorf("ShortText(%.40q) = %.40q, %v; want %.40q, true", c.short, s, ok, c.text)
		}
		wantShort(t, c.text, 0, c.short, len(c.text))
	}
	for _, size := range []int{impl.MaxText + 1, 2 * impl.MaxText} {
		if s, ok := impl.ShortText(longText(size)); ok || s != "" {
			t.Errorf("ShortText of %d bytes = %.40q, %v; want nothing", size, s, ok)
		}
	}
}

func TestShortTextReadBack(t *testing.T) {
	for _, size := range []int{0, 1, 2, 127, 128, 129, 16383, 16384, impl.MaxText - 1, impl.MaxText} {
		short := longText(size)
		s, ok := impl.ShortText(short)
		if !ok {
			t.Fatalf("ShortText of %d bytes is false", size)
		}
		wantShort(t, s, 0, short, len(s))
		wantShort(t, "\x80\x00"+s+"\x01", 2, short, 2+len(s))
		for _, cut := range []int{0, 1, len(s) / 2, len(s) - 1} {
			if cut < len(s) {
				refuseShort(t, s[:cut], 0)
			}
		}
	}
}

func TestReadShortRefuses(t *testing.T) {
	for _, text := range []string{
		"", "\x01", "\x02a", "\x80", "\x80\x01", "\x80\x01" + longText(127),
		"\x80\x00", "\x81\x00a", "\x81\x80\x00a",
		"\x80\x94\xeb\xdc\x03", "\x80\x94\xeb\xdc\x03abc", "\x81\x94\xeb\xdc\x03abc", "\xff\xff\xff\xff\xff\xff\xff\xff\x7fabc",
		"\xa1\x9c\x01" + longText(impl.MaxText+1), "\xa1\x9c\x01" + longText(2*impl.MaxText), "\xa0\x9c\x01" + longText(impl.MaxText-1),
	} {
		refuseShort(t, text, 0)
	}
}

func TestReadShortPlaces(t *testing.T) {
	text := "\x00\x02ab\x01c"
	wantShort(t, text, 0, "", 1)
	wantShort(t, text, 1, "ab", 4)
	wantShort(t, text, 4, "c", 6)
	refuseShort(t, text, len(text))
	for _, at := range wrongPlaces(len(text)) {
		refuseShort(t, text, at)
	}
}

func TestHexFigures(t *testing.T) {
	for i := range 256 {
		text := string([]byte{byte(i)})
		want := strconv.FormatInt(int64(i)+256, 16)[1:]
		if s, ok := impl.Hex(text); !ok || s != want {
			t.Errorf("Hex(%q) = %q, %v; want %q, true", text, s, ok, want)
		}
	}
	if s, ok := impl.Hex("\x00\x1f\xa0Z"); !ok || s != "001fa05a" {
		t.Errorf("Hex of four bytes = %q, %v", s, ok)
	}
	for _, size := range []int{impl.MaxText + 1, 2 * impl.MaxText} {
		if s, ok := impl.Hex(longText(size)); ok || s != "" {
			t.Errorf("Hex of %d bytes = %.40q, %v; want nothing", size, s, ok)
		}
	}
}

func TestHexReadBack(t *testing.T) {
	for _, size := range []int{0, 1, 2, 255, 256, impl.MaxText - 1, impl.MaxText} {
		text := longText(size)
		s, ok := impl.Hex(text)
		if !ok || len(s) != 2*size {
			t.Fatalf("Hex of %d bytes: %d figures, %v", size, len(s), ok)
		}
		if back, ok := impl.Unhex(s); !ok || back != text {
			t.Errorf("Unhex of Hex of %d bytes = %.40q, %v", size, back, ok)
		}
	}
}

// Every pair of bytes is Unhex of the one byte whose Hex it is, or of none.
func TestUnhexOfAllPairs(t *testing.T) {
	pairs := map[string]string{}
	for i := range 256 {
		s, _ := impl.Hex(string([]byte{byte(i)}))
		pairs[s] = string([]byte{byte(i)})
	}
	for i := range 1 << 16 {
		text := string([]byte{byte(i >> 8), byte(i)})
		want, is := pairs[text]
		if s, ok := impl.Unhex(text); ok != is || s != want {
			t.Fatalf("Unhex(%q) = %q, %v; want %q, %v", text, s, ok, want, is)
		}
	}
}

func TestUnhexRefuses(t *testing.T) {
	for _, text := range []string{
		"0", "a", "000", "abc", "0A", "A0", "FF", "0g", "g0", " 00", "00 ", "0x00", "00\n", "é", "0\x00", "0000zz", "zz0000",
		strings.Repeat("0", 2*impl.MaxText+1), strings.Repeat("0", 2*impl.MaxText+2), strings.Repeat("0", 2*impl.MaxText-1) + "G",
	} {
		if s, ok := impl.Unhex(text); ok || s != "" {
			t.Errorf("Unhex(%.40q) = %.40q, %v; want nothing", text, s, ok)
		}
	}
}

func TestDecimalFigures(t *testing.T) {
	for _, c := range []struct {
		number int
		text   string
	}{
		{0, "0"}, {1, "1"}, {9, "9"}, {10, "10"}, {100, "100"}, {105, "105"}, {1000000000, "1000000000"}, {1000000001, "1000000001"},
		{-1, "-1"}, {-5, "-5"}, {-10, "-10"}, {-1000000000, "-1000000000"},
		{math.MaxInt, "9223372036854775807"}, {math.MinInt, "-9223372036854775808"}, {math.MinInt + 1, "-9223372036854775807"},
	} {
		if s := impl.Decimal(c.number); s != c.text {
			t.Errorf("Decimal(%d) = %q; want %q", c.number, s, c.text)
		}
	}
}

func TestDecimalReadBack(t *testing.T) {
	for _, n := range someNumbers() {
		if back, ok := impl.ReadDecimal(impl.Decimal(n)); !ok || back != n {
			t.Errorf("ReadDecimal of Decimal(%d) = %d, %v", n, back, ok)
		}
	}
	for _, n := range []int{-1, -5, -impl.MaxNumber, math.MinInt, impl.MaxNumber + 1, 9999999999, 1 << 32, math.MaxInt} {
		if back, ok := impl.ReadDecimal(impl.Decimal(n)); ok || back != 0 {
			t.Errorf("ReadDecimal of Decimal(%d) = %d, %v; want 0, false", n, back, ok)
		}
	}
}

func TestReadDecimalRefuses(t *testing.T) {
	for _, text := range []string{
		"", "00", "01", "007", "0000000001", "01000000000", "-0", "-1", "+0", "+1", "-", "+", " 1", "1 ", "1 2", "1\n", "1.0", "1e3", "1_000",
		"a", "1a", "a1", "0x1", "/", ":", "1/", "1:", "\x00", "1\x00", "\xff", "١",
		"1000000001", "1000000010", "2000000000", "10000000000", "100000000000000000000",
		"4294967297", "18446744073709551616", "18446744073709551617", strings.Repeat("9", 500), strings.Repeat("0", 500) + "1", strings.Repeat("1", impl.MaxText),
	} {
		if n, ok := impl.ReadDecimal(text); ok || n != 0 {
			t.Errorf("ReadDecimal(%.40q) = %d, %v; want 0, false", text, n, ok)
		}
	}
}

func wantParts(t *testing.T, line string, want ...string) {
	t.Helper()
	if parts, ok := impl.PartsOf(line); !ok || !slices.Equal(parts, want) {
		t.Errorf("PartsOf(%.60q) = %.60q, %v; want %.60q, true", line, parts, ok, want)
	}
}

func refuseParts(t *testing.T, line string) {
	t.Helper()
	if parts, ok := impl.PartsOf(line); ok || len(parts) != 0 {
		t.Errorf("PartsOf(%.60q) = %.60q, %v; want nothing", line, parts, ok)
	}
}

func TestPartsOfLines(t *testing.T) {
	wantParts(t, "")
	wantParts(t, " ")
	wantParts(t, strings.Repeat(" ", impl.MaxWords))
	wantParts(t, "a", "a")
	wantParts(t, "tick 1 2", "tick", "1", "2")
	wantParts(t, "  tick   1 2    ", "tick", "1", "2")
	wantParts(t, "a a a", "a", "a", "a")
	wantParts(t, "#x !~ \"q\",", "#x", "!~", "\"q\",")
	for b := 33; b <= 126; b++ {
		c := string([]byte{byte(b)})
		wantParts(t, c, c)
		wantParts(t, "x "+c+"y", "x", c+"y")
	}
}

func TestPartsOfLimits(t *testing.T) {
	whole := strings.Repeat("x", impl.MaxWords)
	wantParts(t, whole, whole)
	refuseParts(t, whole+"x")
	refuseParts(t, whole+" ")
	refuseParts(t, " "+whole)
	refuseParts(t, strings.Repeat(" ", impl.MaxWords+1))
	refuseParts(t, strings.Repeat("x", impl.MaxText))
	most := slices.Repeat([]string{"ab"}, impl.MaxParts)
	wantParts(t, strings.Join(most, " "), most...)
	wantParts(t, "  "+strings.Join(most, "   ")+"  ", most...)
	refuseParts(t, strings.Join(most, " ")+" c")
	refuseParts(t, " "+strings.Join(most, "  ")+"  c ")
	refuseParts(t, strings.Repeat("x ", impl.MaxWords/2))
}

func TestPartsOfRefusesBytes(t *testing.T) {
	for b := range 256 {
		if b >= 32 && b <= 126 {
			continue
		}
		c := string([]byte{byte(b)})
		for _, line := range []string{c, c + "ab", "ab" + c, "a" + c + "b", "a " + c + " b", " " + c, strings.Repeat(" ", impl.MaxWords-1) + c} {
			refuseParts(t, line)
		}
	}
	for _, line := range []string{"é", "a\u00a0b", "a\u2003b", "日本", "\xc2"} {
		refuseParts(t, line)
	}
}

// What is answered is new memory: writing into one answer changes no other one.
func TestPartsOfIsNew(t *testing.T) {
	first, _ := impl.PartsOf("a b")
	_ = append(first[:1], "c")
	second, ok := impl.PartsOf("a b")
	if !ok || !slices.Equal(second, []string{"a", "b"}) {
		t.Errorf("a second PartsOf = %q, %v", second, ok)
	}
}
