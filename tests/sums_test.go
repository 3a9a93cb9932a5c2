package tests

import (
	"strings"
	"testing"

	"loop.example/g00250/impl"
)

var someSums = []uint32{0, 1, 2, 127, 128, 255, 256, 3558460437, 2147483647, 2147483648, 4294967294, 4294967295}

// sumBitByBit is the chapter's sentence, step by step.
func sumBitByBit(sum uint32, text string) uint32 {
	for i := 0; i < len(text); i++ {
		sum ^= uint32(text[i])
		for range 8 {
			odd := sum%2 == 1
			sum /= 2
			if odd {
				sum ^= 3558460437
			}
		}
	}
	return sum
}

func sumInBytes(text string) string {
	sum := sumBitByBit(4294967295, text)
	return string([]byte{byte(sum / 16777216), byte(sum / 65536 % 256), byte(sum / 256 % 256), byte(sum % 256)})
}

// variedText is a text of this many bytes, with all kinds of bytes in it.
func variedText(size int) string {
	out := make([]byte, size)
	n := uint32(size) + 7
	for i := range out {
		n = n*1664525 + 1013904223
		out[i] = byte(n >> 24)
	}
	return string(out)
}

func turnedAt(text string, at int, by byte) string {
	out := []byte(text)
	out[at] ^= by
	return string(out)
}

func checkRefused(t *testing.T, text string) {
	t.Helper()
	if s, ok := impl.Unsealed(text); s != "" || ok {
		t.Errorf("Unsealed of %d bytes = %d bytes, %v; not refused", len(text), len(s), ok)
	}
}

func checkSealed(t *testing.T, text, sealed string) {
	t.Helper()
	if s, ok := impl.Sealed(text); s != sealed || !ok {
		t.Errorf("Sealed of %d bytes = %d bytes, %v; not text and sum", len(text), len(s), ok)
	}
	if s, ok := impl.Unsealed(sealed); s != text || !ok {
		t.Errorf("Unsealed of what is sealed of %d bytes = %d bytes, %v", len(text), len(s), ok)
	}
}

func TestSumsThatAreKnown(t *testing.T) {
	for _, c := range []struct {
		text     string
		of, more uint32
	}{
		{"", 0xffffffff, 0}, {"\x00", 0x81a5c7dc, 0}, {"a", 0x9f7e6496, 0x1edba34a}, {"abc", 0xa7cd0a81, 0x0964d691},
		{"\xff", 0x00ffffff, 0x815a3823}, {"123456789", 0x78ceaa89, 0x9615c8ca},
		{"\x00\x00\x00\x00", 0x45270551, 0}, {"\xff\xff\xff\xff", 0, 0x45270551},
	} {
		if s := impl.SumOf(c.text); s != c.of {
			t.Errorf("SumOf(%q) = %08x; not %08x", c.text, s, c.of)
		}
		if s := impl.SumMore(0, c.text); s != c.more {
			t.Errorf("SumMore(0, %q) = %08x; not %08x", c.text, s, c.more)
		}
	}
	if s := impl.SumMore(0, "\x80"); s != 3558460437 {
		t.Errorf("SumMore(0, 80) = %d", s)
	}
}

func TestSumsBitByBit(t *testing.T) {
	texts := []string{"", "abc", "a question", variedText(2), variedText(5), variedText(300), variedText(impl.MaxText), variedText(impl.MaxText + 1), variedText(3 * impl.MaxText)}
	for b := range 256 {
		texts = append(texts, string([]byte{byte(b)}), string([]byte{1, byte(b), 254}))
	}
	for _, text := range texts {
		for _, sum := range someSums {
			if s := impl.SumMore(sum, text); s != sumBitByBit(sum, text) {
				t.Errorf("SumMore(%d, %d bytes) = %d; not %d", sum, len(text), s, sumBitByBit(sum, text))
			}
		}
		if s := impl.SumOf(text); s != sumBitByBit(4294967295, text) {
			t.Errorf("SumOf of %d bytes = %d; not %d", len(text), s, sumBitByBit(4294967295, text))
		}
	}
}

func TestSumsOfManyBeginnings(t *testing.T) {
	text := "\x00\x5a\xff"
	for bit := range 32 {
		for _, sum := range []uint32{1 << bit, ^uint32(1 << bit), 1<<bit - 1} {
			if s := impl.SumMore(sum, text); s != sumBitByBit(sum, text) {
				t.Errorf("SumMore(%d, %q) = %d; not %d", sum, text, s, sumBitByBit(sum, text))
			}
		}
	}
	for n := range 20000 {
		sum := uint32(n) * 214661
		if s := impl.SumMore(sum, text); s != sumBitByBit(sum, text) {
			t.Fatalf("SumMore(%d, %q) = %d; not %d", sum, text, s, sumBitByBit(sum, text))
		}
	}
}

func TestSumOfNothingMoreIsTheSum(t *testing.T) {
	for _, sum := range someSums {
		if s := impl.SumMore(sum, ""); s != sum {
			t.Errorf("SumMore(%d, nothing) = %d", sum, s)
		}
	}
	if s := impl.SumOf(""); s != 4294967295 {
		t.Errorf("SumOf(nothing) = %d", s)
	}
}

func TestSumMoreGoesOn(t *testing.T) {
	text := variedText(200)
	for cut := range len(text) + 1 {
		for _, sum := range someSums {
			if s := impl.SumMore(impl.SumMore(sum, text[:cut]), text[cut:]); s != impl.SumMore(sum, text) {
				t.Errorf("from %d on, cut at %d, SumMore = %d; not %d", sum, cut, s, impl.SumMore(sum, text))
			}
		}
		if s := impl.SumMore(impl.SumOf(text[:cut]), text[cut:]); s != impl.SumOf(text) {
			t.Errorf("behind SumOf, cut at %d, SumMore = %d; not %d", cut, s, impl.SumOf(text))
		}
	}
}

func TestSealedTexts(t *testing.T) {
	checkSealed(t, "", "\xff\xff\xff\xff")
	checkSealed(t, "\x00", "\x00\x81\xa5\xc7\xdc")
	checkSealed(t, "abc", "abc\xa7\xcd\x0a\x81")
	checkSealed(t, "123456789", "123456789\x78\xce\xaa\x89")
	checkSealed(t, "\xff\xff\xff\xff", "\xff\xff\xff\xff\x00\x00\x00\x00")
	for size := range 300 {
		text := variedText(size)
		checkSealed(t, text, text+sumInBytes(text))
	}
	sealed, _ := impl.Sealed("abc")
	checkSealed(t, sealed, sealed+sumInBytes(sealed))
}

func TestSealedAtTheLimit(t *testing.T) {
	for _, size := range []int{impl.MaxText - 1, impl.MaxText} {
		text := variedText(size)
		checkSealed(t, text, text+sumInBytes(text))
	}
	for _, size := range []int{impl.MaxText + 1, impl.MaxText + 4, 2 * impl.MaxText} {
		text := variedText(size)
		if s, ok := impl.Sealed(text); s != "" || ok {
			t.Errorf("Sealed of %d bytes = %d bytes, %v; not refused", size, len(s), ok)
		}
		checkRefused(t, text+sumInBytes(text))
	}
}

func TestUnsealedOfFewBytes(t *testing.T) {
	for _, text := range []string{"", "\xff", "\xff\xff", "\xff\xff\xff", "\x00", "\x00\x00\x00", "abc", "\x00\x00\x00\x00", "abcd", "\xff\xff\xff\xfe", "\x7f\xff\xff\xff"} {
		checkRefused(t, text)
	}
	for a := range 256 {
		one := string([]byte{byte(a)})
		checkRefused(t, one)
		for b := range 256 {
			checkRefused(t, one+string([]byte{byte(b)}))
		}
	}
	if s, ok := impl.Unsealed("\xff\xff\xff\xff"); s != "" || !ok {
		t.Errorf("Unsealed of what is sealed of nothing = %q, %v", s, ok)
	}
}

func TestOneByteTurnedIsNeverSealed(t *testing.T) {
	for _, text := range []string{"", "a", "\x00", "\xff", "abc", "\x00\x00\x00\x00", "\xff\xff\xff\xff", variedText(9), variedText(130)} {
		sealed, ok := impl.Sealed(text)
		if !ok || len(sealed) != len(text)+4 {
			t.Fatalf("Sealed(%q) = %q, %v", text, sealed, ok)
		}
		for at := range len(sealed) {
			for by := 1; by < 256; by++ {
				checkRefused(t, turnedAt(sealed, at, byte(by)))
			}
		}
	}
}

func TestOneByteTurnedOfALongText(t *testing.T) {
	sealed, ok := impl.Sealed(variedText(impl.MaxText))
	if !ok || len(sealed) != impl.MaxText+4 {
		t.Fatalf("Sealed of MaxText bytes = %d bytes, %v", len(sealed), ok)
	}
	places := []int{1, impl.MaxText - 2, impl.MaxText - 1, impl.MaxText, impl.MaxText + 1, impl.MaxText + 2, impl.MaxText + 3}
	for at := 0; at < impl.MaxText; at += 997 {
		places = append(places, at)
	}
	for _, at := range places {
		for _, by := range []byte{1, 2, 16, 85, 128, 255} {
			checkRefused(t, turnedAt(sealed, at, by))
		}
	}
}

func TestSumInAnotherOrderIsRefused(t *testing.T) {
	for _, text := range []string{"abc", "123456789", variedText(40)} {
		sum := sumInBytes(text)
		for order := range 256 {
			other := string([]byte{sum[order/64], sum[order/16%4], sum[order/4%4], sum[order%4]})
			if other != sum {
				checkRefused(t, text+other)
			}
		}
		checkRefused(t, sum+text)
	}
}

// A byte more or less may make another sealed text, so what is right is told by the sum itself.
func checkAsSummed(t *testing.T, text string) {
	t.Helper()
	if len(text) >= 4 && sumInBytes(text[:len(text)-4]) == text[len(text)-4:] {
		checkSealed(t, text[:len(text)-4], text)
	} else {
		checkRefused(t, text)
	}
}

func TestAByteMoreOrLess(t *testing.T) {
	for _, text := range []string{"", "a", "\xff", "abc", "\x00\x00\x00\x00", variedText(33)} {
		sealed := text + sumInBytes(text)
		for at := range len(sealed) {
			checkAsSummed(t, sealed[:at]+sealed[at+1:])
		}
		for at := range len(sealed) + 1 {
			for b := range 256 {
				checkAsSummed(t, sealed[:at]+string([]byte{byte(b)})+sealed[at:])
			}
		}
	}
	sealed := "abc" + sumInBytes("abc")
	for _, text := range []string{sealed[1:], sealed[:6], sealed + "\x00", "\x00" + sealed, sealed + sealed[6:], "abc", "abcabc" + sealed[3:]} {
		checkRefused(t, text)
	}
	// The byte 0 within what is sealed of nothing makes what is sealed of the byte 255.
	checkSealed(t, "\xff", "\xff\x00\xff\xff\xff")
}

func TestSealedIsNewMemory(t *testing.T) {
	text := strings.Repeat("word ", 3)
	sealed, ok := impl.Sealed(text)
	if !ok || sharesMemory(sealed, text) {
		t.Error("what is sealed lies in the text that was given")
	}
	if s, ok := impl.Unsealed(sealed); !ok || s != text || sharesMemory(s, sealed) {
		t.Error("what is unsealed lies in the text that was given")
	}
}
