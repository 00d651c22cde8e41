package tests

import (
	"fmt"
	"slices"
	"strings"
	"testing"

	"loop.example/g01393/impl"
)

// journalLists has lists of lines of all kinds: none, empty ones, those with
// blanks, with numbers in front, with any bytes, and lines of the desk.
func journalLists() [][]string {
	all := [][]string{
		nil,
		{""},
		{"", "", ""},
		{"life"},
		{"life", "pays"},
		{" ", "  ", " a", "a ", " a  b "},
		{"0", "0 0", "229 ", "5 5 5", "-1", "62 life"},
		{"\x00", "\xff", "\r", "a\x00b", "\u00e9 \U0001f600", "\xff\xfe \x80", "\t"},
		{"pays 1,2", "pays", "scale 0,5;7,7", "trim", "scale", "mix 5000", "what", "pays x", ""},
		{"table 3f800000", "life", "table 80000000,3f800000", "rates -9999,10000", "scale 0;0"},
		{strings.Repeat("x", 3000), "life", strings.Repeat(" ", 3000)},
	}
	var bytes []string
	for b := range 256 {
		if b != '\n' {
			bytes = append(bytes, string([]byte{byte(b)}))
		}
	}
	all = append(all, bytes, slices.Repeat([]string{"life"}, 400))
	g := lcg(241)
	for range 60 {
		var lines []string
		for range 1 + g.below(12) {
			line := make([]byte, g.below(g.one(1, 5, 30)))
			for i := range line {
				line[i] = byte(g.one(' ', '0', '1', '9', 'a', 0, 255, g.below(8), 11+g.below(244)))
			}
			lines = append(lines, string(line))
		}
		all = append(all, lines)
	}
	return all
}

// checkOf0 has lines with the check number 0, which is written as one digit.
func checkOf0() []string {
	for a := range 256 * 256 * 256 {
		line := string([]byte{byte(a >> 16), byte(a >> 8), byte(a)})
		if !strings.Contains(line, "\n") && slowNumberCheck(0, line) == 0 {
			return []string{line, "life"}
		}
	}
	return nil
}

func TestJournalOf(t *testing.T) {
	for _, c := range []struct {
		lines []string
		want  string
	}{
		{nil, ""},
		{[]string{""}, "0 \n"},
		{[]string{"", ""}, "0 \n0 \n"},
		{[]string{"a"}, "326 a\n"},           // 97 + 229
		{[]string{"a", ""}, "326 a\n326 \n"}, // no bytes change nothing
		{[]string{"a", "a"}, "326 a\n56860 a\n"},
		{[]string{"aa"}, "56860 aa\n"}, // the remainder of 971 times 326, plus 97 and 229, divided by 65003
		{[]string{" "}, "261  \n"},
	} {
		got, ok := impl.JournalOf(c.lines)
		isText(t, fmt.Sprintf("JournalOf(%q)", c.lines), got, ok, c.want)
	}
	for _, lines := range append(journalLists(), checkOf0()) {
		want, _ := slowJournal(lines)
		got, ok := impl.JournalOf(lines)
		isText(t, fmt.Sprintf("JournalOf(%q)", lines), got, ok, want)
	}
	isTrue(t, "there are lines with the check number 0", len(checkOf0()) > 0)
}

func TestJournalOfInvalidLines(t *testing.T) {
	for _, bad := range []string{"\n", "a\n", "\na", "a\nb", "life\n", "\r\n", " \n ", "\x00\n", "\n\n"} {
		for _, lines := range [][]string{{bad}, {"life", bad}, {bad, "life"}, {"a", bad, "b"}, {bad, bad}} {
			isNone(t, fmt.Sprintf("JournalOf(%q)", lines), results(impl.JournalOf(lines)))
		}
	}
}

// fullJournal has lines whose journal has so many bytes more than MaxScript.
func fullJournal(more int) []string {
	lines := slices.Repeat([]string{"life", "pays 1,2", ""}, 300)
	journal, _ := slowJournal(lines)
	// The last line has a check number of 5 digits for some byte at its beginning.
	last := strings.Repeat("x", impl.MaxScript+more-len(journal)-8)
	for b := byte('a'); b <= 'z'; b++ {
		whole := append(slices.Clone(lines), string([]byte{b})+last)
		if all, _ := slowJournal(whole); len(all) == impl.MaxScript+more {
			return whole
		}
	}
	return nil
}

func TestJournalLengths(t *testing.T) {
	for _, more := range []int{-1, 0} {
		lines := fullJournal(more)
		want, _ := slowJournal(lines)
		isInt(t, "the length of the journal", int64(len(want)), int64(impl.MaxScript+more))
		got, ok := impl.JournalOf(lines)
		isText(t, fmt.Sprintf("JournalOf of %d bytes", len(want)), got, ok, want)
		back, n, ok := impl.RecoverJournal(want)
		isTexts(t, fmt.Sprintf("RecoverJournal of %d bytes", len(want)), back, ok, lines)
		isInt(t, "the bytes of the journal that are recovered", n, int64(len(want)))
		_, count, ok := impl.RunJournal(newDesk(), want)
		isTold(t, "RunJournal of a long journal", count, ok, int64(len(lines)))
	}
	for _, lines := range [][]string{fullJournal(1), fullJournal(2), append(fullJournal(0), ""), append(fullJournal(1), "x", "y"), {strings.Repeat("x", impl.MaxScript)}, {strings.Repeat("x", 100000)}, slices.Repeat([]string{""}, impl.MaxScript), slices.Repeat([]string{"life"}, impl.MaxScript)} {
		isTrue(t, "there are lines", len(lines) > 0)
		isNone(t, fmt.Sprintf("JournalOf of %d lines", len(lines)), results(impl.JournalOf(lines)))
		journal, _ := slowJournal(lines[:min(len(lines), 6000)])
		isTrue(t, "the journal is too long", len(journal) > impl.MaxScript)
		isNone(t, "RecoverJournal of too many bytes", results(impl.RecoverJournal(journal)))
		isNone(t, "RunJournal of too many bytes", results(impl.RunJournal(newDesk(), journal)))
	}
	for _, text := range []string{strings.Repeat("x", impl.MaxScript+1), strings.Repeat("\n", impl.MaxScript+1), strings.Repeat("0 \n", impl.MaxScript)} {
		isNone(t, "RecoverJournal of too many bytes", results(impl.RecoverJournal(text)))
	}
	isInt(t, "bytes of many empty lines", int64(len(strings.Repeat("0 \n", 5333))), 15999)
	back, n, ok := impl.RecoverJournal(strings.Repeat("0 \n", 5333) + "0")
	isTexts(t, "RecoverJournal of many empty lines", back, ok, make([]string, 5333))
	isInt(t, "bytes of many empty lines that are recovered", n, 15999)
}

// recovers checks what is recovered of a text.
func recovers(t *testing.T, text string, lines []string, length int) {
	t.Helper()
	got, n, ok := impl.RecoverJournal(text)
	isTexts(t, fmt.Sprintf("RecoverJournal(%.300q)", text), got, ok, lines)
	isInt(t, fmt.Sprintf("the bytes that RecoverJournal(%.300q) recovers", text), n, int64(length))
}

func TestRecoverJournal(t *testing.T) {
	for _, lines := range append(journalLists(), checkOf0()) {
		journal, _ := slowJournal(lines)
		recovers(t, journal, lines, len(journal))
		for _, behind := range []string{"\n", " ", "x", "0", "0 ", "0 life", "\x00", "\n\n", "\xff", "life\n", " life\n", "-1 life\n", "+0 life\n"} {
			recovers(t, journal+behind, lines, len(journal))
			recovers(t, journal+behind+journal, lines, len(journal))
			if len(lines) > 0 && lines[0] != "" {
				recovers(t, behind+journal, nil, 0)
			}
		}
	}
	for _, text := range []string{
		"", "\n", "0", "0\n", "0 ", " \n", "0 \r", "00 \n", "+0 \n", "-0 \n", "0  \n", " 0 \n", "0x0 \n", "0.0 \n", "\x000 \n", "65003 \n", "-65003 \n", "9223372036854775808 \n", "0\t\n", "0,\n",
		"326 a", "326a\n", "0326 a\n", "00326 a\n", "326  a\n", "326 a \n", " 326 a\n", "+326 a\n", "326.0 a\n", "65329 a\n", "325 a\n", "327 a\n", "326 b\n", "a 326\n", "a\n", "\u0663\u0662\u0666 a\n", "326\ta\n", "326\u00a0a\n", "0 a\n", "32 6 a\n",
	} {
		recovers(t, text, nil, 0)
	}
	recovers(t, "326 a\n0326 \n", []string{"a"}, 6)
	recovers(t, "326 a\n326 \n326 a\n", []string{"a", ""}, 11) // the check number of the first line, behind others
	recovers(t, "326 a\n56860 a\n56860 a\n", []string{"a", "a"}, 14)
	recovers(t, "326 a\n56860 aa\n", []string{"a"}, 6)
	recovers(t, "0 \n0 \n326 a\n0 \n", []string{"", "", "a"}, 12)
}

// What is recovered of any text is what a pattern tells.
func TestRecoverJournalByPatterns(t *testing.T) {
	g := lcg(242)
	some := 0
	for _, lines := range journalLists() {
		journal, _ := slowJournal(lines)
		for range 60 {
			bytes := []byte(journal)
			for range g.below(2) {
				at := g.below(int64(len(bytes)))
				bytes = slices.Insert(bytes, int(at), []byte{byte(g.below(255)), ' ', '\n', '0'}[g.below(3)])
			}
			if len(bytes) > 0 && g.below(2) == 0 {
				at := int(g.below(int64(len(bytes) - 1)))
				bytes = slices.Delete(bytes, at, at+1)
			}
			want, length := slowRecovered(string(bytes))
			recovers(t, string(bytes), want, length)
			if len(want) > 0 && len(want) < len(lines) {
				some++
			}
		}
	}
	isTrue(t, fmt.Sprintf("some journals are recovered in part: %d", some), some > 500)
}

func TestRunJournal(t *testing.T) {
	for _, c := range []struct {
		lines []string
		after impl.Desk
	}{
		{nil, newDesk()},
		{[]string{"life", "pays"}, newDesk()},
		{[]string{"", "what", "pays x", "mix 20001", " trim"}, newDesk()},
		{[]string{"pays 1,2", "pays", "mix 5000", "mix 5000"}, deskOf(scaleWith(0, 250, 1000, 500), []int64{1, 2}, []int64{500, 0, -500}, 0.5, 0.5, 1)},
		{[]string{"scale 0,5;7,7", "trim", "rates 0", "table 3f800000", "pays 0"}, deskOf(scaleWith(0, 7), []int64{0}, []int64{0}, 1)},
	} {
		journal, ends := slowJournal(c.lines)
		what := fmt.Sprintf("RunJournal(%q)", journal)
		got, count, ok := impl.RunJournal(newDesk(), journal)
		isDesk(t, what, got, ok, c.after)
		isInt(t, what, count, int64(len(c.lines)))
		// Bytes behind the last line are left.
		got, count, ok = impl.RunJournal(newDesk(), journal+"0 pays 7")
		isDesk(t, what+" with bytes behind", got, ok, c.after)
		isInt(t, what+" with bytes behind", count, int64(len(c.lines)))
		if len(ends) > 0 {
			_, count, ok = impl.RunJournal(newDesk(), journal[:len(journal)-1])
			isTold(t, what+" without the last newline", count, ok, int64(len(c.lines)-1))
		}
	}
	got, count, ok := impl.RunJournal(withPays(7), "x")
	isDesk(t, "RunJournal of no line", got, ok, withPays(7))
	isInt(t, "RunJournal of no line", count, 0)
	for _, d := range badDesks() {
		for _, lines := range [][]string{nil, {"life"}, {"scale 0;0", "pays 0", "rates 0", "table 3f800000"}} {
			journal, _ := slowJournal(lines)
			isNone(t, fmt.Sprintf("RunJournal(%v, %q)", d, journal), results(impl.RunJournal(d, journal)))
		}
	}
}
