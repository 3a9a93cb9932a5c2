package tests

import (
	"math"
	"slices"
	"strings"
	"testing"
	"unsafe"

	"loop.example/g00250/impl"
)

// sharesMemory tells whether two texts lie in the same bytes, wholly or in part.
func sharesMemory(a, b string) bool {
	if a == "" || b == "" {
		return false
	}
	from, other := uintptr(unsafe.Pointer(unsafe.StringData(a))), uintptr(unsafe.Pointer(unsafe.StringData(b)))
	return from < other+uintptr(len(b)) && other < from+uintptr(len(a))
}

func checkReadVar(t *testing.T, text string, at, number, behind int, right bool) {
	t.Helper()
	n, place, ok := impl.ReadVar(text, at)
	if n != number || place != behind || ok != right {
		t.Errorf("ReadVar(%q, %d) = %d, %d, %v; not %d, %d, %v", text, at, n, place, ok, number, behind, right)
	}
}

func checkReadShort(t *testing.T, text string, at int, short string, behind int, right bool) {
	t.Helper()
	s, place, ok := impl.ReadShort(text, at)
	if s != short || place != behind || ok != right {
		t.Errorf("ReadShort of %d bytes at %d = %d bytes, %d, %v; not %d bytes, %d, %v", len(text), at, len(s), place, ok, len(short), behind, right)
	}
}

func TestConstantsOfWords(t *testing.T) {
	if impl.MaxText != 20000 || impl.MaxNumber != 1000000000 || impl.MaxWords != 600 || impl.MaxParts != 10 {
		t.Error("a limit of the words is not the document's")
	}
}

func TestVarTextBytes(t *testing.T) {
	for _, c := range []struct {
		number int
		text   string
	}{
		{0, "\x00"}, {1, "\x01"}, {127, "\x7f"},
		{128, "\x80\x01"}, {129, "\x81\x01"}, {300, "\xac\x02"}, {16383, "\xff\x7f"},
		{16384, "\x80\x80\x01"}, {2097151, "\xff\xff\x7f"},
		{2097152, "\x80\x80\x80\x01"}, {268435455, "\xff\xff\xff\x7f"},
		{268435456, "\x80\x80\x80\x80\x01"},
		{impl.MaxNumber - 1, "\xff\x93\xeb\xdc\x03"}, {impl.MaxNumber, "\x80\x94\xeb\xdc\x03"},
	} {
		if s, ok := impl.VarText(c.number); s != c.text || !ok {
			t.Errorf("VarText(%d) = %q, %v; not %q", c.number, s, ok, c.text)
		}
		checkReadVar(t, c.text, 0, c.number, len(c.text), true)
	}
}

func TestVarTextRefusesOtherNumbers(t *testing.T) {
	for _, n := range []int{-1, -128, impl.MaxNumber + 1, math.MaxInt, math.MinInt} {
		if s, ok := impl.VarText(n); s != "" || ok {
			t.Errorf("VarText(%d) = %q, %v", n, s, ok)
		}
	}
}

func TestVarTextIsReadBack(t *testing.T) {
	numbers := []int{}
	for n := range 70000 {
		numbers = append(numbers, n)
	}
	for n := 70001; n < impl.MaxNumber; n += 99991 {
		numbers = append(numbers, n)
	}
	for _, n := range numbers {
		s, ok := impl.VarText(n)
		if !ok {
			t.Fatalf("VarText(%d) is false", n)
		}
		checkReadVar(t, s, 0, n, len(s), true)
		checkReadVar(t, "\xff\x80"+s+"\x80\x00", 2, n, 2+len(s), true)
	}
}

// Of one number there is one form: whatever is read is just what VarText writes.
func TestReadVarTakesWhatVarTextWritesAlone(t *testing.T) {
	ends := []byte{0, 1, 2, 3, 4, 126, 127, 128, 129, 254, 255}
	for _, a := range ends {
		for _, b := range ends {
			for _, c := range ends {
				for _, d := range ends {
					for _, e := range ends {
						text := string([]byte{a, b, c, d, e})
						n, place, ok := impl.ReadVar(text, 0)
						if ok {
							if s, fine := impl.VarText(n); !fine || place > len(text) || s != text[:place] {
								t.Fatalf("ReadVar(%q) = %d, %d, and that is not its VarText", text, n, place)
							}
						} else if n != 0 || place != 0 {
							t.Fatalf("ReadVar(%q) = %d, %d beside a false", text, n, place)
						}
					}
				}
			}
		}
	}
}

func TestReadVarRefusesLongerForms(t *testing.T) {
	for _, text := range []string{
		"\x80\x00", "\xff\x00", "\x80\x80\x00", "\x80\x81\x00", "\xac\x82\x00",
		"\x80\x80\x80\x80\x00", "\x80\x94\xeb\xdc\x83\x00", "\x80\x80\x80\x80\x80\x00",
		strings.Repeat("\x80", 9) + "\x00", strings.Repeat("\x80", 9) + "\x01", strings.Repeat("\x80", 20) + "\x01",
	} {
		checkReadVar(t, text, 0, 0, 0, false)
		checkReadVar(t, "\x01"+text+"\x01", 1, 0, 0, false)
	}
}

func TestReadVarRefusesTooGreatNumbers(t *testing.T) {
	for _, text := range []string{
		"\x81\x94\xeb\xdc\x03", "\x80\x94\xeb\xdc\x04", "\xff\xff\xff\xff\x07", "\xff\xff\xff\xff\x7f",
		"\x80\x80\x80\x80\x80\x01", "\xff\xff\xff\xff\xff\xff\xff\xff\x7f", strings.Repeat("\xff", 9) + "\x01",
	} {
		checkReadVar(t, text, 0, 0, 0, false)
	}
}

func TestReadVarRefusesTextThatEndsWithin(t *testing.T) {
	for _, text := range []string{"", "\x80", "\xff", "\x80\x94", "\x80\x94\xeb\xdc", strings.Repeat("\x80", 30)} {
		checkReadVar(t, text, 0, 0, 0, false)
	}
}

func TestReadVarPlaces(t *testing.T) {
	text := "\x05\xac\x02\x07"
	checkReadVar(t, text, 0, 5, 1, true)
	checkReadVar(t, text, 1, 300, 3, true)
	checkReadVar(t, text, 2, 2, 3, true)
	checkReadVar(t, text, 3, 7, 4, true)
	for _, at := range []int{-1, 4, 5, math.MinInt, math.MaxInt} {
		checkReadVar(t, text, at, 0, 0, false)
	}
}

func TestShortTextBytes(t *testing.T) {
	for _, c := range []struct{ short, text string }{
		{"", "\x00"}, {"a", "\x01a"}, {"\x00\xff", "\x02\x00\xff"},
		{strings.Repeat("b", 127), "\x7f" + strings.Repeat("b", 127)},
		{strings.Repeat("b", 128), "\x80\x01" + strings.Repeat("b", 128)},
		{strings.Repeat("c", impl.MaxText), "\xa0\x9c\x01" + strings.Repeat("c", impl.MaxText)},
	} {
		s, ok := impl.ShortText(c.short)
		if s != c.text || !ok {
			t.Errorf("ShortText of %d bytes = %d bytes, %v", len(c.short), len(s), ok)
		}
		checkReadShort(t, c.text, 0, c.short, len(c.text), true)
		checkReadShort(t, "\x09\x80"+c.text+"\x03z", 2, c.short, 2+len(c.text), true)
	}
}

func TestShortTextRefusesLongOnes(t *testing.T) {
	if s, ok := impl.ShortText(strings.Repeat("c", impl.MaxText+1)); s != "" || ok {
		t.Errorf("ShortText of one byte too many = %d bytes, %v", len(s), ok)
	}
	checkReadShort(t, "\xa1\x9c\x01"+strings.Repeat("c", impl.MaxText+1), 0, "", 0, false)
}

func TestReadShortRefusesWrongTexts(t *testing.T) {
	for _, text := range []string{
		"", "\x80", "\x01", "\x03ab", "\x82\x00ab", "\x81\x80\x00a",
		"\x7f" + strings.Repeat("b", 126), "\x80\x01" + strings.Repeat("b", 127),
		"\xa0\x9c\x01" + strings.Repeat("c", impl.MaxText-1), "\x80\x94\xeb\xdc\x03ab",
	} {
		checkReadShort(t, text, 0, "", 0, false)
	}
}

func TestReadShortPlaces(t *testing.T) {
	text := "\x02ab\x00\x01c"
	checkReadShort(t, text, 0, "ab", 3, true)
	checkReadShort(t, text, 3, "", 4, true)
	checkReadShort(t, text, 4, "c", 6, true)
	for _, at := range []int{-1, 1, 2, 5, 6, 7, math.MinInt, math.MaxInt} {
		checkReadShort(t, text, at, "", 0, false)
	}
}

func TestHexFigures(t *testing.T) {
	for _, c := range []struct{ text, figures string }{
		{"", ""}, {"\x00", "00"}, {"\x0a", "0a"}, {"\xa0", "a0"}, {"\x9f\xf9", "9ff9"},
		{"\x01\x23\x45\x67\x89\xab\xcd\xef", "0123456789abcdef"}, {"Az", "417a"},
		{strings.Repeat("\xff", impl.MaxText), strings.Repeat("f", 2*impl.MaxText)},
	} {
		if s, ok := impl.Hex(c.text); s != c.figures || !ok {
			t.Errorf("Hex of %d bytes = %d figures, %v", len(c.text), len(s), ok)
		}
		if s, ok := impl.Unhex(c.figures); s != c.text || !ok {
			t.Errorf("Unhex of %d figures = %d bytes, %v", len(c.figures), len(s), ok)
		}
	}
}

func TestHexIsReadBack(t *testing.T) {
	all := make([]byte, 0, 512)
	for i := range 256 {
		all = append(all, byte(i), byte(255-i))
		one := string([]byte{byte(i)})
		figures, ok := impl.Hex(one)
		if back, fine := impl.Unhex(figures); !ok || !fine || back != one {
			t.Errorf("the byte %d comes back as %q", i, back)
		}
	}
	figures, ok := impl.Hex(string(all))
	if back, fine := impl.Unhex(figures); !ok || !fine || back != string(all) {
		t.Error("all bytes do not come back")
	}
}

func TestHexRefusesLongOnes(t *testing.T) {
	if s, ok := impl.Hex(strings.Repeat("a", impl.MaxText+1)); s != "" || ok {
		t.Errorf("Hex of one byte too many = %d figures, %v", len(s), ok)
	}
	for _, more := range []int{1, 2} {
		if s, ok := impl.Unhex(strings.Repeat("0", 2*impl.MaxText+more)); s != "" || ok {
			t.Errorf("Unhex of %d figures too many = %d bytes, %v", more, len(s), ok)
		}
	}
}

func TestUnhexOfAllTwoBytes(t *testing.T) {
	const figures = "0123456789abcdef"
	for a := range 256 {
		for b := range 256 {
			text := string([]byte{byte(a), byte(b)})
			high, low := strings.IndexByte(figures, byte(a)), strings.IndexByte(figures, byte(b))
			want, right := "", high >= 0 && low >= 0
			if right {
				want = string([]byte{byte(16*high + low)})
			}
			if s, ok := impl.Unhex(text); s != want || ok != right {
				t.Errorf("Unhex(%q) = %q, %v", text, s, ok)
			}
		}
	}
}

func TestUnhexRefusesWrongFigures(t *testing.T) {
	for _, text := range []string{"0", "000", "abc", "0g", "AB", "aB", "4F", "00 0", " 00", "-1", "+1", "0x", "00G0", "0000é"} {
		if s, ok := impl.Unhex(text); s != "" || ok {
			t.Errorf("Unhex(%q) = %q, %v", text, s, ok)
		}
	}
}

func TestDecimalFigures(t *testing.T) {
	for _, c := range []struct {
		number int
		text   string
	}{
		{0, "0"}, {1, "1"}, {-1, "-1"}, {9, "9"}, {10, "10"}, {-10, "-10"}, {100, "100"}, {1234567890, "1234567890"},
		{impl.MaxNumber, "1000000000"}, {impl.MaxNumber + 1, "1000000001"},
		{math.MaxInt, "9223372036854775807"}, {math.MinInt, "-9223372036854775808"}, {math.MinInt + 1, "-9223372036854775807"},
	} {
		if s := impl.Decimal(c.number); s != c.text {
			t.Errorf("Decimal(%d) = %q; not %q", c.number, s, c.text)
		}
		number, right := c.number, c.number >= 0 && c.number <= impl.MaxNumber
		if !right {
			number = 0
		}
		if n, ok := impl.ReadDecimal(c.text); n != number || ok != right {
			t.Errorf("ReadDecimal(%q) = %d, %v", c.text, n, ok)
		}
	}
}

func TestDecimalIsReadBack(t *testing.T) {
	for n := 0; n <= impl.MaxNumber; n += 1 + n/50 {
		if back, ok := impl.ReadDecimal(impl.Decimal(n)); back != n || !ok {
			t.Fatalf("%d comes back as %d, %v", n, back, ok)
		}
	}
	for n := impl.MaxNumber - 20; n <= impl.MaxNumber; n++ {
		if back, ok := impl.ReadDecimal(impl.Decimal(n)); back != n || !ok {
			t.Fatalf("%d comes back as %d, %v", n, back, ok)
		}
	}
}

func TestReadDecimalRefusesWrongTexts(t *testing.T) {
	for _, text := range []string{
		"", "00", "01", "007", "0000000000", "0000000001", "+1", "-1", "-0", "-", "+", " 1", "1 ", "1 2", "1a", "a", "f", "0x1", "1.", "1e3", "/", ":",
		"1\x00", "\xd9\xa1", "1_0", "1000000001", "9999999999", "10000000000", "01000000000",
		"18446744073709551617", "18446744073709551616", strings.Repeat("9", 40), strings.Repeat("0", 40), "1" + strings.Repeat("0", 64),
	} {
		if n, ok := impl.ReadDecimal(text); n != 0 || ok {
			t.Errorf("ReadDecimal(%q) = %d, %v", text, n, ok)
		}
	}
}

func checkParts(t *testing.T, line string, parts []string, right bool) {
	t.Helper()
	p, ok := impl.PartsOf(line)
	if !slices.Equal(p, parts) || ok != right {
		t.Errorf("PartsOf(%q) = %q, %v; not %q, %v", line, p, ok, parts, right)
	}
}

func TestPartsOfLines(t *testing.T) {
	checkParts(t, "", nil, true)
	checkParts(t, " ", nil, true)
	checkParts(t, "     ", nil, true)
	checkParts(t, "a", []string{"a"}, true)
	checkParts(t, "tick 1 2", []string{"tick", "1", "2"}, true)
	checkParts(t, " tick  1 2 ", []string{"tick", "1", "2"}, true)
	checkParts(t, "   a    b", []string{"a", "b"}, true)
	checkParts(t, "a b   ", []string{"a", "b"}, true)
	checkParts(t, "!~ #x,y", []string{"!~", "#x,y"}, true)
}

func TestPartsOfLongLines(t *testing.T) {
	long := strings.Repeat("x", impl.MaxWords)
	checkParts(t, long, []string{long}, true)
	checkParts(t, long+"x", nil, false)
	checkParts(t, strings.Repeat(" ", impl.MaxWords), nil, true)
	checkParts(t, strings.Repeat(" ", impl.MaxWords+1), nil, false)
	checkParts(t, "a"+strings.Repeat(" ", impl.MaxWords-2)+"b", []string{"a", "b"}, true)
	checkParts(t, "a"+strings.Repeat(" ", impl.MaxWords-1)+"b", nil, false)
}

func TestPartsOfManyParts(t *testing.T) {
	ten := strings.Split("a b c d e f g h i j", " ")
	if len(ten) != impl.MaxParts {
		t.Fatal("the line has not just as many parts as it may")
	}
	checkParts(t, "a b c d e f g h i j", ten, true)
	checkParts(t, "  a b  c d e f g h i   j  ", ten, true)
	checkParts(t, "a b c d e f g h i j k", nil, false)
	checkParts(t, " a b c d e f g h i j  k ", nil, false)
	checkParts(t, strings.Repeat("a ", 200), nil, false)
}

func TestPartsOfEachByte(t *testing.T) {
	for i := range 256 {
		b := string([]byte{byte(i)})
		switch {
		case i == 32:
			checkParts(t, "x"+b+"y", []string{"x", "y"}, true)
		case i > 32 && i < 127:
			checkParts(t, b, []string{b}, true)
			checkParts(t, "x"+b+"y", []string{"x" + b + "y"}, true)
		default:
			checkParts(t, b, nil, false)
			checkParts(t, "x"+b+"y", nil, false)
			checkParts(t, "x y"+b, nil, false)
			checkParts(t, b+" x", nil, false)
			checkParts(t, " "+b+" ", nil, false)
		}
	}
	checkParts(t, "é", nil, false)
	checkParts(t, "a\u00a0b", nil, false)
}

func TestWordsAreNewMemory(t *testing.T) {
	text := strings.Repeat("\x04abcd", 2)
	if s, _, ok := impl.ReadShort(text, 5); !ok || sharesMemory(s, text) {
		t.Error("what ReadShort answers lies in the text that it was given")
	}
	for _, line := range []string{strings.Repeat("word ", 3), strings.Repeat("w", 9)} {
		parts, ok := impl.PartsOf(line)
		if !ok || len(parts) == 0 {
			t.Fatalf("PartsOf(%q) has no parts", line)
		}
		for _, part := range parts {
			if sharesMemory(part, line) {
				t.Errorf("a part of %q lies in the line", line)
			}
		}
	}
}
