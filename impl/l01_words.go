package impl

import (
	"strconv"
	"strings"
)

const (
	MaxText   = 20000
	MaxNumber = 1000000000
	MaxWords  = 600
	MaxParts  = 10
)

const (
	hexFigures = "0123456789abcdef"
	mostBits   = 35 // five bytes of seven bits hold MaxNumber; a sixth one could only be a longer form
)

func VarText(n int) (string, bool) {
	if n < 0 || n > MaxNumber {
		return "", false
	}
	out := []byte{}
	for n > 127 {
		out = append(out, byte(n%128+128))
		n /= 128
	}
	return string(append(out, byte(n))), true
}

func ReadVar(text string, at int) (int, int, bool) {
	if at < 0 || at > len(text) {
		return 0, 0, false
	}
	n, shift := 0, 0
	for place := at; place < len(text) && shift < mostBits; place++ {
		b := int(text[place])
		n += (b % 128) << shift
		if b > 127 {
			shift += 7
			continue
		}
		// A last byte of 0 behind others adds nothing: VarText would have stopped ahead of it.
		if longer := b == 0 && place > at; longer || n > MaxNumber {
			return 0, 0, false
		}
		return n, place + 1, true
	}
	return 0, 0, false
}

func ShortText(s string) (string, bool) {
	if len(s) > MaxText {
		return "", false
	}
	size, ok := VarText(len(s))
	return size + s, ok
}

func ReadShort(text string, at int) (string, int, bool) {
	size, start, ok := ReadVar(text, at)
	if !ok || size > MaxText || size > len(text)-start {
		return "", 0, false
	}
	return newText(text[start : start+size]), start + size, true
}

func Hex(text string) (string, bool) {
	if len(text) > MaxText {
		return "", false
	}
	out := make([]byte, 0, 2*len(text))
	for i := 0; i < len(text); i++ {
		out = append(out, hexFigures[text[i]/16], hexFigures[text[i]%16])
	}
	return string(out), true
}

func Unhex(text string) (string, bool) {
	if len(text)%2 != 0 || len(text) > 2*MaxText {
		return "", false
	}
	out := make([]byte, 0, len(text)/2)
	for i := 0; i < len(text); i += 2 {
		n, ok := readFigures(text[i:i+2], 16)
		if !ok {
			return "", false
		}
		out = append(out, byte(n))
	}
	return string(out), true
}

func Decimal(n int) string { return strconv.Itoa(n) }

func ReadDecimal(text string) (int, bool) {
	n, ok := readFigures(text, 10)
	// Needless noughts, a text of nothing, and figures that wrap round tell a number whose Decimal is another text.
	if !ok || n > MaxNumber || Decimal(n) != text {
		return 0, false
	}
	return n, true
}

func PartsOf(line string) ([]string, bool) {
	if len(line) > MaxWords || !allShown(line) {
		return nil, false
	}
	// Of the bytes that are left, 32 alone is a space.
	parts := strings.Fields(line)
	if len(parts) > MaxParts {
		return nil, false
	}
	for i, part := range parts {
		parts[i] = newText(part)
	}
	return parts, true
}

// readFigures tells the number of these figures, all of them of the base (10 or 16); there may be none.
func readFigures(text string, base int) (int, bool) {
	n, at := 0, 0
figures:
	for ; at < len(text); at++ {
		b := text[at]
		switch {
		case b >= '0' && b <= '9':
			n = n*base + int(b-'0')
		case base == 16 && b >= 'a' && b <= 'f':
			n = n*base + int(b-'a') + 10
		default:
			break figures
		}
	}
	return n, at == len(text)
}

// allShown tells whether each byte of the line is one that a line may have.
func allShown(line string) bool {
	for i := 0; i < len(line); i++ {
		if line[i] < 32 || line[i] > 126 {
			return false
		}
	}
	return true
}

// newText is a copy, since a piece of an argument would share its memory.
func newText(piece string) string { return strings.Clone(piece) }

// varTexts is asked of numbers alone that have a VarText.
func varTexts(numbers ...int) string {
	out := strings.Builder{}
	for _, n := range numbers {
		text, _ := VarText(n)
		out.WriteString(text)
	}
	return out.String()
}

// varReader reads numbers and bytes one behind the other; once one was not there it tells 0 for ever, so that who asks need look only at the end.
type varReader struct {
	text   string
	at     int
	failed bool
}

// number has a limit, so that a spoilt text can't ask for more room than a right one.
func (r *varReader) number(most int) int {
	n, behind, ok := ReadVar(r.text, r.at)
	if r.failed || !ok || n > most {
		r.failed = true
		return 0
	}
	r.at = behind
	return n
}

func (r *varReader) oneByte() byte {
	if r.failed || r.at >= len(r.text) {
		r.failed = true
		return 0
	}
	r.at++
	return r.text[r.at-1]
}

func (r *varReader) isAtEnd() bool { return !r.failed && r.at == len(r.text) }
