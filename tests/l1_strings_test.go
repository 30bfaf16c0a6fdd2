package tests

import (
	"math"
	"slices"
	"strconv"
	"strings"
	"testing"

	"loop.example/g01019/impl"
)

// l1Texts are texts without `#`: ASCII, bytes outside of ASCII, and bytes that are no UTF-8.
var l1Texts = []string{
	"", "a", "0", "7", "a,,b", ",", "w900 s100", "saltworks", "two\nlines", "-12", "a b", "\x00", "\x00\x00",
	"é", "\xc3", "\xa9\xc3", "\xff\xfe", "日本", "emdp", "enaa", "@reply",
}

func wantString(t *testing.T, call string, got string, ok bool, want string, wantOK bool) {
	t.Helper()
	if got != want || ok != wantOK {
		t.Errorf("%s: got %.80q, %v, want %.80q, %v", call, got, ok, want, wantOK)
	}
}

func wantInt(t *testing.T, call string, got int, ok bool, want int, wantOK bool) {
	t.Helper()
	if got != want || ok != wantOK {
		t.Errorf("%s: got %d, %v, want %d, %v", call, got, ok, want, wantOK)
	}
}

func wantStrings(t *testing.T, call string, got []string, ok bool, want []string, wantOK bool) {
	t.Helper()
	if !slices.Equal(got, want) || ok != wantOK {
		t.Errorf("%s: got %.80q, %v, want %.80q, %v", call, got, ok, want, wantOK)
	}
}

func TestFormatInt(t *testing.T) {
	for n, want := range map[int]string{
		-12: "-12", 0: "0", 1: "1", -1: "-1", 9: "9", 10: "10", 1000: "1000", -100000: "-100000",
		impl.MaxDecimal: "999999", -impl.MaxDecimal: "-999999",
	} {
		got, ok := impl.FormatInt(n)
		wantString(t, "FormatInt "+want, got, ok, want, true)
	}
	for _, n := range []int{impl.MaxDecimal + 1, -impl.MaxDecimal - 1, 1 << 32, math.MaxInt, math.MinInt} {
		got, ok := impl.FormatInt(n)
		wantString(t, "FormatInt beyond the limit", got, ok, "", false)
	}
}

func TestParseInt(t *testing.T) {
	for s, want := range map[string]int{
		"-12": -12, "0": 0, "1": 1, "-1": -1, "10": 10, "-100000": -100000,
		"999999": impl.MaxDecimal, "-999999": -impl.MaxDecimal,
	} {
		got, ok := impl.ParseInt(s)
		wantInt(t, "ParseInt "+s, got, ok, want, true)
	}
}

func TestParseIntRejects(t *testing.T) {
	bad := []string{
		"", "-", "+", "--", "--1", "-+1", "+1", "+0", "-0", "00", "01", "-01", "-00", "000001", "0999999",
		"1000000", "-1000000", "9999990", " 1", "1 ", "- 1", "1\n", "1-", "1-2", "12x", "x12", "x", "1.0", "1e3", "0x1", "1_0",
		"1,000", "1\x00", "\x001", "\xff", "é", "１", "٣", "1/", "1:",
		"9223372036854775807", "-9223372036854775808", "18446744073709551617", "18446744073709551616",
		strings.Repeat("0", 5000) + "1", strings.Repeat("9", 5000), "-" + strings.Repeat("9", 5000),
	}
	for _, s := range bad {
		got, ok := impl.ParseInt(s)
		wantInt(t, "ParseInt "+strconv.Quote(s), got, ok, 0, false)
	}
}

func TestDecimalRoundTrip(t *testing.T) {
	for n := -impl.MaxDecimal; n <= impl.MaxDecimal; n++ {
		s, ok := impl.FormatInt(n)
		if !ok || s != strconv.Itoa(n) {
			t.Fatalf("FormatInt(%d) = %q, %v", n, s, ok)
		}
		if m, ok := impl.ParseInt(s); !ok || m != n {
			t.Fatalf("ParseInt(%q) = %d, %v", s, m, ok)
		}
	}
}

// TestParseIntOnlyOwnTexts holds every text of at most four signs against the texts of FormatInt.
func TestParseIntOnlyOwnTexts(t *testing.T) {
	texts := []string{""}
	for start := 0; len(texts[start]) < 4; start++ {
		for _, c := range "+-0129x " {
			texts = append(texts, texts[start]+string(c))
		}
	}
	for _, s := range texts {
		n, err := strconv.Atoi(s)
		isOwn := err == nil && strconv.Itoa(n) == s
		if !isOwn {
			n = 0
		}
		got, ok := impl.ParseInt(s)
		wantInt(t, "ParseInt "+strconv.Quote(s), got, ok, n, isOwn)
	}
}

func TestSplitString(t *testing.T) {
	for _, c := range []struct {
		s, sep string
		want   []string
	}{
		{"a,,b", ",", []string{"a", "", "b"}},
		{"", ",", []string{""}},
		{",", ",", []string{"", ""}},
		{"abc", ",", []string{"abc"}},
		{",a,", ",", []string{"", "a", ""}},
		{"a,b;c", ";", []string{"a,b", "c"}},
		{"a b  c", " ", []string{"a", "b", "", "c"}},
		{"one\ntwo\n", "\n", []string{"one", "two", ""}},
		{"a\x00b", "\x00", []string{"a", "b"}},
		{"a\xffb\xff", "\xff", []string{"a", "b", ""}},
		{"aéb", "\xc3", []string{"a", "\xa9b"}},
		{"é", "\xa9", []string{"\xc3", ""}},
		{"é.日", ".", []string{"é", "日"}},
		{"a\xff.b", ".", []string{"a\xff", "b"}},
	} {
		got, ok := impl.SplitString(c.s, c.sep)
		wantStrings(t, "SplitString "+strconv.Quote(c.s), got, ok, c.want, true)
	}
}

func TestSplitStringLimits(t *testing.T) {
	got, ok := impl.SplitString(strings.Repeat(",", impl.MaxString), ",")
	wantStrings(t, "MaxString separators", got, ok, make([]string, impl.MaxString+1), true)
	long := strings.Repeat("a", impl.MaxString)
	got, ok = impl.SplitString(long, ",")
	wantStrings(t, "MaxString letters", got, ok, []string{long}, true)
	for _, s := range []string{long + "a", long + ",", strings.Repeat(",", impl.MaxString+1), strings.Repeat("é", impl.MaxString/2) + "a"} {
		got, ok = impl.SplitString(s, ",")
		wantStrings(t, "one byte beyond MaxString", got, ok, nil, false)
	}
	for _, s := range []string{"", "a", "a,,b", "é"} {
		for _, sep := range []string{"", ",,", ", ", "é", "日", "\x00\x00"} {
			got, ok = impl.SplitString(s, sep)
			wantStrings(t, "separator "+strconv.Quote(sep), got, ok, nil, false)
		}
	}
}

func TestJoinStrings(t *testing.T) {
	for _, c := range []struct {
		parts []string
		sep   string
		want  string
	}{
		{[]string{"a", "", "b"}, ";", "a;;b"},
		{[]string{""}, ";", ""},
		{[]string{"", ""}, ";", ";"},
		{[]string{"a"}, ";", "a"},
		{[]string{"", "a", ""}, ",", ",a,"},
		{[]string{"a,b", "c"}, ";", "a,b;c"},
		{[]string{"one", "two"}, "\n", "one\ntwo"},
		{[]string{"a", "b"}, "\x00", "a\x00b"},
		{[]string{"é", "\xfe"}, "\xff", "é\xff\xfe"},
		{[]string{"\xc3", ""}, "\xa9", "é"},
	} {
		got, ok := impl.JoinStrings(c.parts, c.sep)
		wantString(t, "JoinStrings "+c.want, got, ok, c.want, true)
	}
}

func TestJoinStringsRejects(t *testing.T) {
	for _, c := range []struct {
		parts []string
		sep   string
	}{
		{nil, ";"}, {[]string{}, ";"}, {nil, ""},
		{[]string{"a", "b"}, ""}, {[]string{"a"}, ""}, {[]string{""}, ""},
		{[]string{"a", "b"}, ";;"}, {[]string{"a"}, ";;"}, {[]string{"a", "b"}, "é"},
		{[]string{";"}, ";"}, {[]string{"a;b"}, ";"}, {[]string{";a", "b"}, ";"}, {[]string{"a;", "b"}, ";"},
		{[]string{"a", "b;"}, ";"}, {[]string{"a", "b;b", "c"}, ";"}, {[]string{"", "", ";"}, ";"},
		{[]string{"a", "é"}, "\xc3"}, {[]string{"é", "a"}, "\xa9"}, {[]string{"a\xff"}, "\xff"},
	} {
		got, ok := impl.JoinStrings(c.parts, c.sep)
		wantString(t, "JoinStrings "+strconv.Quote(strings.Join(c.parts, "|")), got, ok, "", false)
	}
}

func TestJoinStringsLimits(t *testing.T) {
	long := strings.Repeat("a", impl.MaxString)
	for _, parts := range [][]string{
		{long}, {long[2:], "b"}, {"", long[1:]}, {long[:2000], long[:1999]}, make([]string, impl.MaxString+1),
	} {
		got, ok := impl.JoinStrings(parts, ";")
		wantString(t, "MaxString bytes", got, ok, strings.Join(parts, ";"), true)
	}
	for _, parts := range [][]string{
		{long + "a"}, {long[1:], "b"}, {"", long}, {long, ""}, {long, long}, {long[:2000], long[:2000]},
		make([]string, impl.MaxString+2), {strings.Repeat("é", impl.MaxString/2), ""},
	} {
		got, ok := impl.JoinStrings(parts, ";")
		wantString(t, "beyond MaxString bytes", got, ok, "", false)
	}
}

func TestSplitAndJoinRoundTrip(t *testing.T) {
	for c := range 256 {
		sep := string([]byte{byte(c)})
		for _, s := range append(l1Texts, sep, sep+"a"+sep, "a"+sep+sep+"#") {
			parts, ok := impl.SplitString(s, sep)
			if !ok || len(parts) != strings.Count(s, sep)+1 {
				t.Errorf("SplitString(%q, %q) = %q, %v", s, sep, parts, ok)
			}
			got, ok := impl.JoinStrings(parts, sep)
			wantString(t, "joined again", got, ok, s, true)
		}
	}
}

func TestJoinAndSplitRoundTrip(t *testing.T) {
	for i := range l1Texts {
		parts := l1Texts[i:]
		joined, ok := impl.JoinStrings(parts, "~")
		wantString(t, "joined", joined, ok, strings.Join(parts, "~"), true)
		got, ok := impl.SplitString(joined, "~")
		wantStrings(t, "split again", got, ok, parts, true)
	}
}

func TestArgumentsAndResultsAreApart(t *testing.T) {
	backing := []string{"a", "b", "c;d", strings.Repeat("x", impl.MaxString)}
	joined, ok := impl.JoinStrings(backing[:2], ";")
	wantString(t, "elements beyond the length are not read", joined, ok, "a;b", true)
	impl.JoinStrings(backing, ";")
	impl.JoinStrings(backing[:3], "b")
	if !slices.Equal(backing[:3], []string{"a", "b", "c;d"}) {
		t.Error("JoinStrings changed its argument", backing[:3])
	}
	first, _ := impl.SplitString("a,b", ",")
	second, _ := impl.SplitString("a,b", ",")
	first[0] = "changed"
	wantStrings(t, "an earlier result was changed", second, true, []string{"a", "b"}, true)
}

func TestLessString(t *testing.T) {
	long := strings.Repeat("a", impl.MaxString)
	ascending := []string{
		"", "\x00", "\x00\x00", "\x00a", "\n", "0", "10", "9", "A", "Z", "a", "a\x00", "aZ", "aa", "ab",
		"b", "z", "\x7f", "\x80", "é", "日", "\xff", "\xff\x00", "\xff\xff",
	}
	for i, a := range ascending {
		for j, b := range ascending {
			if got := impl.LessString(a, b); got != (i < j) {
				t.Errorf("LessString(%q, %q) = %v", a, b, got)
			}
			if got := impl.LessString(long+a, long+b); got != (i < j) {
				t.Errorf("LessString of long strings that end with %q and %q = %v", a, b, got)
			}
		}
	}
}

func TestChecksum(t *testing.T) {
	for s, want := range map[string]int{
		"a": 385, "": 7, "ab": 15884, "ba": 15924, "\x00": 288, "\xff": 543, "é": 19973, "w900 s100": 344200,
		"saltworks": 541437, "emdp": 0, "emdq": 1, "emdz": 10, "enaa": 1543, "#": 323,
		strings.Repeat("z", impl.MaxString):    398436,
		strings.Repeat("\xff", impl.MaxString): 55992,
	} {
		got, ok := impl.Checksum(s)
		wantInt(t, "Checksum", got, ok, want, true)
	}
	for _, s := range []string{strings.Repeat("z", impl.MaxString+1), strings.Repeat("é", impl.MaxString/2) + "é"} {
		got, ok := impl.Checksum(s)
		wantInt(t, "Checksum beyond MaxString", got, ok, 0, false)
	}
}

func TestChecksumFollowsItsRule(t *testing.T) {
	h := 7
	for n := range impl.MaxString + 1 {
		if n > 0 {
			h = (41*h + n*n%256 + 1) % 999979
		}
		if n%97 != 0 && n != impl.MaxString {
			continue
		}
		s := make([]byte, n)
		for i := range s {
			s[i] = byte((i + 1) * (i + 1))
		}
		got, ok := impl.Checksum(string(s))
		wantInt(t, "Checksum of "+strconv.Itoa(n)+" bytes", got, ok, h, true)
	}
}

func TestAppendChecksum(t *testing.T) {
	for s, want := range map[string]string{
		"a": "a#385", "": "#7", "emdp": "emdp#0", "emdz": "emdz#10", "enaa": "enaa#1543",
		"é": "é#19973", "\xff": "\xff#543", "w900 s100": "w900 s100#344200",
	} {
		got, ok := impl.AppendChecksum(s)
		wantString(t, "AppendChecksum", got, ok, want, true)
		got, ok = impl.VerifyChecksum(want)
		wantString(t, "VerifyChecksum", got, ok, s, true)
	}
	for _, s := range []string{"#", "a#385", "#a", "a#", "a#b", "##", "é#"} {
		got, ok := impl.AppendChecksum(s)
		wantString(t, "AppendChecksum "+s, got, ok, "", false)
	}
}

// paddedTo returns a text of n bytes with an ending that gives it a checksum of a certain length.
func paddedTo(n int, ending string) string {
	return strings.Repeat("a", n-len(ending)) + ending
}

func TestChecksummedLimits(t *testing.T) {
	for text, sum := range map[string]string{
		paddedTo(3998, "tmia"): "5", paddedTo(3996, "ysas"): "100", paddedTo(3995, "naaa"): "1250",
		paddedTo(3994, "ikfq"): "10000", paddedTo(3993, ""): "815629",
	} {
		got, ok := impl.AppendChecksum(text)
		wantString(t, "a result of MaxString bytes", got, ok, text+"#"+sum, true)
		got, ok = impl.VerifyChecksum(text + "#" + sum)
		wantString(t, "opened", got, ok, text, true)
	}
	for text, sum := range map[string]string{
		paddedTo(3998, "tmif"): "10", paddedTo(3997, "poaa"): "539", paddedTo(3996, "kaaa"): "4909",
		paddedTo(3995, "nfir"): "10000", paddedTo(3994, ""): "441580",
		strings.Repeat("z", impl.MaxString): "398436",
	} {
		got, ok := impl.AppendChecksum(text)
		wantString(t, "a result beyond MaxString bytes", got, ok, "", false)
		got, ok = impl.VerifyChecksum(text + "#" + sum)
		wantString(t, "not opened", got, ok, "", false)
	}
	got, ok := impl.AppendChecksum(strings.Repeat("a", impl.MaxString+1))
	wantString(t, "a text beyond MaxString bytes", got, ok, "", false)
}

func TestVerifyChecksumRejects(t *testing.T) {
	for _, s := range []string{
		"", "a", "#", "##", "a#", "385", "a385", "a#384", "a#386", "a#0385", "a#+385", "a#-385", "a# 385", "a#385 ", "a#385\n",
		"a#385#", "a#385#1", "#a#385", "##7", "#7#7", "b#385", "A#385", "aa#385", "é#385", "a#1000364",
		"#999986", "#07", "#+7", "#-7", "#8", "#", " #7", "#\xff", "emdp#", "emdp#-0", "emdp#00", "emdp#999979", "a#3é",
		"a#" + strings.Repeat("0", 5000) + "385", strings.Repeat("a", 5000), strings.Repeat("#", 5000),
	} {
		got, ok := impl.VerifyChecksum(s)
		wantString(t, "VerifyChecksum "+strconv.Quote(s), got, ok, "", false)
	}
	// The text has a `#`, and the number behind its last one is right for all before it.
	sum, _ := impl.Checksum("a#385")
	got, ok := impl.VerifyChecksum("a#385#" + strconv.Itoa(sum))
	wantString(t, "a # in the text", got, ok, "", false)
}

func TestChecksumRoundTrip(t *testing.T) {
	for _, text := range l1Texts {
		sum, _ := impl.Checksum(text)
		whole, ok := impl.AppendChecksum(text)
		wantString(t, "AppendChecksum", whole, ok, text+"#"+strconv.Itoa(sum), true)
		got, ok := impl.VerifyChecksum(whole)
		wantString(t, "VerifyChecksum", got, ok, text, true)
	}
}

// expectDetected changes the byte i of whole to each of the others.
func expectDetected(t *testing.T, whole string, i int) {
	t.Helper()
	changed := []byte(whole)
	for c := range 256 {
		if byte(c) == whole[i] {
			continue
		}
		changed[i] = byte(c)
		if got, ok := impl.VerifyChecksum(string(changed)); ok || got != "" {
			t.Errorf("byte %d of %.40q changed to %d: VerifyChecksum gives %.40q, %v", i, whole, c, got, ok)
		}
	}
}

func TestAnyChangedByteIsDetected(t *testing.T) {
	for _, text := range l1Texts {
		whole, _ := impl.AppendChecksum(text)
		for i := range len(whole) {
			expectDetected(t, whole, i)
		}
	}
	whole, _ := impl.AppendChecksum(paddedTo(3993, ""))
	for i := 0; i < len(whole); i += 31 {
		expectDetected(t, whole, i)
	}
	for i := 3990; i < len(whole); i++ {
		expectDetected(t, whole, i)
	}
}
