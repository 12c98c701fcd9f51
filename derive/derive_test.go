package derive

import (
	"bytes"
	"crypto/hkdf"
	"crypto/hmac"
	"crypto/sha256"
	"encoding/hex"
	"errors"
	"math"
	"strings"
	"testing"

	"fellowship/api"
)

// row is n bytes that differ along the way, by a rule that no block's length divides.
func row(n int) []byte {
	b := make([]byte, n)
	for i := range b {
		b[i] = byte(i*i + 7*i + i>>8)
	}
	return b
}

// unhex is the bytes that a text writes out.
func unhex(t *testing.T, s string) []byte {
	t.Helper()
	b, err := hex.DecodeString(s)
	if err != nil {
		t.Fatal(err)
	}
	return b
}

// expanded is HKDF-Expand as the library of the language has it.
func expanded(t *testing.T, key, info []byte, n int) []byte {
	t.Helper()
	b, err := hkdf.Expand(sha256.New, key, string(info), n)
	if err != nil {
		t.Fatal(err)
	}
	return b
}

// code is HMAC as the library of the language has it.
func code(key, text []byte) api.Hash {
	h := hmac.New(sha256.New, key)
	h.Write(text)
	return api.Hash(h.Sum(nil))
}

// info is a label's info, written field by field as the chapter tells it.
func info(label string, context []byte, n int) []byte {
	var b bytes.Buffer
	b.WriteByte(byte(n / 256))
	b.WriteByte(byte(n % 256))
	b.WriteByte(byte(11 + len(label)))
	b.WriteString("fellowship ")
	b.WriteString(label)
	b.WriteByte(byte(len(context) / 256))
	b.WriteByte(byte(len(context) % 256))
	b.Write(context)
	return b.Bytes()
}

// wrongCounts are numbers of bytes that nobody may ask for.
func wrongCounts() []int {
	return []int{8161, 8192, 65535, 65536, 65536 + 32, 1 << 32, 1<<32 + 32, math.MaxInt, -1, -32, -8160, math.MinInt, math.MinInt + 32}
}

// counts are those about which blocks and the chapter's words have edges.
func counts() []int {
	return []int{0, 1, 2, 12, 31, 32, 33, 63, 64, 65, 255, 256, 257, 1000, 4096, 8127, 8128, 8129, 8159, 8160}
}

func TestTheStandardsExamples(t *testing.T) {
	for _, c := range []struct {
		name               string
		salt, secret, info []byte
		key, want          string
	}{
		{
			"the first one",
			unhex(t, "000102030405060708090a0b0c"), bytes.Repeat([]byte{0x0b}, 22), unhex(t, "f0f1f2f3f4f5f6f7f8f9"),
			"077709362c2e32df0ddc3f0dc47bba6390b6c73bb50f9c3122ec844ad7c2b3e5",
			"3cb25f25faacd57a90434f64d0362f2a2d2d0a90cf1a5a4c5db02d56ecc4c5bf34007208d5b887185865",
		},
		{
			"the one of long bytes",
			rising(0x60, 80), rising(0, 80), rising(0xb0, 80),
			"06a6b88c5853361a06104c9ceb35b45cef760014904671014a193f40c15fc244",
			"b11e398dc80327a1c8e7f78c596a49344f012eda2d4efad8a050cc4c19afa97c59045a99cac7827271cb41c65e590e09da3275600c2f09b8367793a9aca3db71cc30c58179ec3e87c14c01d5c1f3434f1d87",
		},
		{
			"the one without salt and info",
			nil, bytes.Repeat([]byte{0x0b}, 22), nil,
			"19ef24a32c717b167f33a91d6f648bdf96596776afdb6377ac434c1c293ccb04",
			"8da4e775a563c18f715f802a063c5a31b8a11f5c5ee1879ec3454e5f3c738d2d9d201395faa4b61a96c8",
		},
	} {
		key := Extract(c.salt, c.secret)
		if hex.EncodeToString(key[:]) != c.key {
			t.Errorf("Extract of %s: %x, not %s", c.name, key, c.key)
		}
		got, err := Expand(key[:], c.info, len(c.want)/2)
		if err != nil || hex.EncodeToString(got) != c.want {
			t.Errorf("Expand of %s: %x, %v, not %s", c.name, got, err, c.want)
		}
	}
}

// rising is n bytes, each one more than the one ahead of it.
func rising(from byte, n int) []byte {
	b := make([]byte, n)
	for i := range b {
		b[i] = from + byte(i)
	}
	return b
}

func TestExtractIsTheCodeOfTheSecretByTheSalt(t *testing.T) {
	lengths := []int{0, 1, 20, 31, 32, 33, 63, 64, 65, 200, api.MaxBytes + 1}
	for _, n := range lengths {
		for _, m := range lengths {
			salt, secret := row(n), bytes.Repeat([]byte{0x5a}, m)
			if got, want := Extract(salt, secret), code(salt, secret); got != want {
				t.Errorf("Extract by %d bytes of %d: %x, not %x", n, m, got, want)
			}
		}
	}
	if Extract(nil, nil) != Extract([]byte{}, []byte{}) || Extract(nil, row(9)) != Extract(make([]byte, 32), row(9)) {
		t.Error("no salt isn't a salt of noughts")
	}
	if Extract([]byte("a"), []byte("b")) == Extract([]byte("b"), []byte("a")) {
		t.Error("salt and secret can change places")
	}
}

func TestExpandOfAllCountsThatMatter(t *testing.T) {
	key, text := row(32), row(40)
	all := expanded(t, key, text, 8160)
	for n := range 8161 {
		if n > 1024 && n < 8000 && n%32 > 1 {
			continue // whole blocks and one byte more are enough, far from both ends
		}
		got, err := Expand(key, text, n)
		if err != nil || !bytes.Equal(got, all[:n]) {
			t.Fatalf("Expand to %d bytes isn't what the standard tells: %v", n, err)
		}
	}
}

func TestExpandByKeysAndInfosOfAllLengths(t *testing.T) {
	for _, k := range []int{0, 1, 31, 32, 33, 63, 64, 65, 66, 1000} {
		for _, m := range []int{0, 1, 22, 23, 31, 32, 55, 63, 64, 65, 300} {
			for _, n := range []int{0, 1, 32, 33, 100} {
				got, err := Expand(row(k), row(m), n)
				if err != nil || !bytes.Equal(got, expanded(t, row(k), row(m), n)) {
					t.Errorf("Expand by %d bytes, of %d, to %d: %x, %v", k, m, n, got, err)
				}
			}
		}
	}
	for _, n := range counts() {
		got, err := Expand(nil, nil, n)
		if err != nil || !bytes.Equal(got, expanded(t, nil, nil, n)) {
			t.Errorf("Expand by nothing, of nothing, to %d bytes: %v", n, err)
		}
	}
}

func TestExpandRefuses(t *testing.T) {
	for _, n := range wrongCounts() {
		for _, text := range [][]byte{nil, row(3), row(api.MaxBytes), row(api.MaxBytes + 1)} {
			got, err := Expand(row(32), text, n)
			if !errors.Is(err, api.ErrRange) || got != nil {
				t.Errorf("Expand of %d bytes to %d: %d bytes, %v", len(text), n, len(got), err)
			}
		}
	}
	for _, n := range counts() {
		for _, m := range []int{api.MaxBytes + 1, 2 * api.MaxBytes} {
			got, err := Expand(row(32), row(m), n)
			if !errors.Is(err, api.ErrLong) || got != nil {
				t.Errorf("Expand of %d bytes to %d: %d bytes, %v", m, n, len(got), err)
			}
		}
	}
	for _, m := range []int{api.MaxBytes - 1, api.MaxBytes} {
		got, err := Expand(row(32), row(m), 70)
		if err != nil || !bytes.Equal(got, expanded(t, row(32), row(m), 70)) {
			t.Errorf("Expand of %d bytes: %x, %v", m, got, err)
		}
	}
}

func TestExpandLetsKeysBeLong(t *testing.T) {
	key := row(api.MaxBytes + 1)
	got, err := Expand(key, nil, 40)
	if err != nil || !bytes.Equal(got, expanded(t, key, nil, 40)) {
		t.Errorf("Expand by a long key: %x, %v", got, err)
	}
}

func TestInfoIsAsTheChapterTells(t *testing.T) {
	got, err := Info("x", nil, 32)
	if want := "00200c" + hex.EncodeToString([]byte("fellowship x")) + "0000"; err != nil || hex.EncodeToString(got) != want {
		t.Errorf("the chapter's example: %x, %v, not %s", got, err, want)
	}
	labels := []string{"", "x", "exporter", "\x00", "\xff\xfe", "größe", strings.Repeat("l", 199), strings.Repeat("l", 200), strings.Repeat("\xff", 200), strings.Repeat("ß", 100)}
	for _, label := range labels {
		for _, m := range []int{0, 1, 32, 255, 256, 257, 1000, api.MaxText - 1, api.MaxText} {
			for _, n := range counts() {
				got, err := Info(label, row(m), n)
				if err != nil || !bytes.Equal(got, info(label, row(m), n)) {
					t.Errorf("Info(%q, %d bytes, %d): %x, %v", label, m, n, got[:min(len(got), 250)], err)
				}
			}
		}
	}
}

// tooLong are labels and contexts of which at least one is too long.
func tooLong() []struct {
	label   string
	context []byte
} {
	return []struct {
		label   string
		context []byte
	}{
		{strings.Repeat("l", 201), nil},
		{strings.Repeat("ß", 101), nil},
		{strings.Repeat("l", 244), row(4)},
		{strings.Repeat("l", 256+3), row(4)},
		{strings.Repeat("l", api.MaxBytes), row(4)},
		{"", row(api.MaxText + 1)},
		{"x", row(api.MaxText + 1)},
		{"x", row(api.MaxBytes)},
		{"x", row(api.MaxBytes + 3)},
		{strings.Repeat("l", 200), row(api.MaxText + 1)},
		{strings.Repeat("l", 201), row(api.MaxText + 1)},
	}
}

func TestInfoAndLabelRefuse(t *testing.T) {
	secret := api.Hash(row(32))
	refused := func(label string, context []byte, n int, want error) {
		t.Helper()
		got, err := Info(label, context, n)
		if !errors.Is(err, want) || got != nil {
			t.Errorf("Info of a label of %d bytes, a context of %d, to %d: %d bytes, %v, not %v", len(label), len(context), n, len(got), err, want)
		}
		got, err = Label(secret, label, context, n)
		if !errors.Is(err, want) || got != nil {
			t.Errorf("Label of a label of %d bytes, a context of %d, to %d: %d bytes, %v, not %v", len(label), len(context), n, len(got), err, want)
		}
	}
	for _, c := range tooLong() {
		for _, n := range counts() {
			refused(c.label, c.context, n, api.ErrLong)
		}
		for _, n := range wrongCounts() {
			refused(c.label, c.context, n, api.ErrRange)
		}
	}
	for _, n := range wrongCounts() {
		refused("x", row(5), n, api.ErrRange)
		refused("", nil, n, api.ErrRange)
	}
}

func TestLabelIsExpandOfTheInfo(t *testing.T) {
	for _, secret := range []api.Hash{{}, api.Hash(row(32)), api.Hash(bytes.Repeat([]byte{0xff}, 32))} {
		for _, label := range []string{"", "node", "\xff\x00", strings.Repeat("l", 200)} {
			for _, m := range []int{0, 1, 100, api.MaxText} {
				for _, n := range counts() {
					got, err := Label(secret, label, row(m), n)
					if err != nil || !bytes.Equal(got, expanded(t, secret[:], info(label, row(m), n), n)) {
						t.Errorf("Label(%x, %q, %d bytes, %d): %d bytes, %v", secret[:2], label, m, n, len(got), err)
					}
				}
			}
		}
	}
}

func TestUnlikeArgumentsHaveUnlikeBytes(t *testing.T) {
	secret := api.Hash(row(32))
	seen := map[string]string{}
	for _, c := range []struct{ label, context string }{
		{"", ""}, {"a", ""}, {"b", ""}, {"ab", ""}, {"a", "b"}, {"", "ab"}, {"", "a"}, {"a", "\x00"}, {"a\x00", ""}, {"a\x00\x00", ""},
	} {
		for _, n := range []int{32, 33, 64} {
			got, err := Label(secret, c.label, []byte(c.context), n)
			if err != nil {
				t.Fatal(err)
			}
			name := c.label + "|" + c.context + "|" + string(rune('0'+n))
			if other, ok := seen[string(got[:32])]; ok {
				t.Errorf("%q and %q begin alike", name, other)
			}
			seen[string(got[:32])] = name
		}
	}
}

func TestSecretIsLabelOfAllParts(t *testing.T) {
	secret := api.Hash(row(32))
	all := row(150)
	for _, label := range []string{"", "path", strings.Repeat("l", 200)} {
		want := api.Hash(expanded(t, secret[:], info(label, all, 32), 32))
		for i := 0; i <= len(all); i++ {
			for _, j := range []int{i, i + 1, i + 64, len(all)} {
				j = min(j, len(all))
				if got := Secret(secret, label, all[:i], nil, all[i:j], []byte{}, all[j:]); got != want {
					t.Errorf("Secret of parts that end at %d and %d: %x, not %x", i, j, got, want)
				}
			}
		}
		if got := Secret(secret, label, all); got != want {
			t.Errorf("Secret of one part: %x, not %x", got, want)
		}
	}
	if Secret(secret, "x", []byte("b"), []byte("a")) == Secret(secret, "x", []byte("ab")) {
		t.Error("the order of parts is lost")
	}
	if Secret(secret, "a") == Secret(api.Hash{}, "a") || Secret(secret, "a") == Secret(secret, "b") {
		t.Error("unlike secrets or labels make one secret")
	}
}

func TestSecretOfNoContext(t *testing.T) {
	for _, secret := range []api.Hash{{}, api.Hash(row(32))} {
		want := api.Hash(expanded(t, secret[:], info("first", nil, 32), 32))
		for name, got := range map[string]api.Hash{
			"no parts":      Secret(secret, "first"),
			"an empty list": Secret(secret, "first", [][]byte{}...),
			"a nil part":    Secret(secret, "first", nil),
			"empty parts":   Secret(secret, "first", nil, []byte{}, nil),
		} {
			if got != want {
				t.Errorf("Secret of %s: %x, not %x", name, got, want)
			}
		}
	}
}

func TestSecretIsNoughtsWhereLabelHasAnError(t *testing.T) {
	secret := api.Hash(row(32))
	for _, c := range tooLong() {
		if got := Secret(secret, c.label, c.context); got != (api.Hash{}) {
			t.Errorf("Secret of a label of %d bytes and a context of %d: %x", len(c.label), len(c.context), got)
		}
	}
	most := row(api.MaxText)
	for i := 0; i <= len(most); i += 512 {
		if got := Secret(secret, "x", most[:i], most[i:], []byte{7}); got != (api.Hash{}) {
			t.Errorf("Secret of one byte too many behind parts of which one ends at %d: %x", i, got)
		}
		if got := Secret(secret, "x", []byte{7}, most[:i], nil, most[i:], nil); got != (api.Hash{}) {
			t.Errorf("Secret of one byte too many ahead of parts of which one ends at %d: %x", i, got)
		}
		want := api.Hash(expanded(t, secret[:], info("x", most, 32), 32))
		if got := Secret(secret, "x", most[:i], nil, most[i:], nil); got != want {
			t.Errorf("Secret of as many bytes as may be, parted at %d: %x, not %x", i, got, want)
		}
	}
	if got := Secret(secret, strings.Repeat("l", 201)); got != (api.Hash{}) {
		t.Errorf("Secret of a label that is too long: %x", got)
	}
}

func TestSecretOfFarTooMuchEnds(t *testing.T) {
	// All parts are one row: joined to the end they would have 2^40 bytes.
	list := make([][]byte, 1<<20)
	part := row(1 << 20)
	for i := range list {
		list[i] = part
	}
	if got := Secret(api.Hash{1}, "x", list...); got != (api.Hash{}) {
		t.Errorf("Secret of far too much: %x", got)
	}
}

func TestBytesAreNeitherChangedNorKept(t *testing.T) {
	key := append(row(32), 0xaa, 0xbb)[:32] // room behind, which must stay as it is too
	text := append(row(70), 0xcc, 0xdd)[:70]
	list := append(make([][]byte, 0, 3), text, text, []byte("room"))[:2]
	secret := api.Hash(key)

	extracted := Extract(key, text)
	long, err1 := Expand(key, text, 100)
	told, err2 := Info("x", text, 100)
	labelled, err3 := Label(secret, "x", text, 100)
	joint := Secret(secret, "x", list...)
	single := Secret(secret, "x", text)
	if err1 != nil || err2 != nil || err3 != nil {
		t.Fatal(err1, err2, err3)
	}

	if !bytes.Equal(key[:34], append(row(32), 0xaa, 0xbb)) || !bytes.Equal(text[:72], append(row(70), 0xcc, 0xdd)) {
		t.Error("bytes that were handed in are changed")
	}
	if &list[0][0] != &text[0] || &list[1][0] != &text[0] || string(list[:3][2]) != "room" {
		t.Error("a list that was handed in is changed")
	}
	clear(key)
	clear(text)
	if extracted != code(row(32), row(70)) || !bytes.Equal(long, expanded(t, row(32), row(70), 100)) {
		t.Error("a later change shows in what was extracted or expanded")
	}
	if !bytes.Equal(told, info("x", row(70), 100)) || !bytes.Equal(labelled, expanded(t, row(32), info("x", row(70), 100), 100)) {
		t.Error("a later change shows in an info, or in bytes by a label")
	}
	twice := append(row(70), row(70)...)
	if joint != api.Hash(expanded(t, row(32), info("x", twice, 32), 32)) || single != api.Hash(expanded(t, row(32), info("x", row(70), 32), 32)) {
		t.Error("a later change shows in a secret")
	}
}

func TestAnswersAreTheCallersOwn(t *testing.T) {
	secret := api.Hash(row(32))
	for _, n := range []int{1, 32, 33, 100} {
		for name, call := range map[string]func() ([]byte, error){
			"Expand": func() ([]byte, error) { return Expand(secret[:], nil, n) },
			"Info":   func() ([]byte, error) { return Info("x", nil, n) },
			"Label":  func() ([]byte, error) { return Label(secret, "x", nil, n) },
		} {
			first, err := call()
			if err != nil {
				t.Fatal(err)
			}
			was := bytes.Clone(first)
			clear(first[:cap(first)])
			if second, err := call(); err != nil || !bytes.Equal(second, was) {
				t.Errorf("%s to %d bytes hangs on what was done to an answer of it", name, n)
			}
		}
	}
}

func TestOneRowMayBeAllArguments(t *testing.T) {
	b := row(32)
	if Extract(b, b) != code(row(32), row(32)) {
		t.Error("Extract of the salt itself is wrong")
	}
	if got, err := Expand(b, b, 100); err != nil || !bytes.Equal(got, expanded(t, row(32), row(32), 100)) {
		t.Errorf("Expand of the key itself: %x, %v", got, err)
	}
}

func BenchmarkExpandMost(b *testing.B) {
	key, text := row(32), row(40)
	b.SetBytes(8160)
	for b.Loop() {
		if _, err := Expand(key, text, 8160); err != nil {
			b.Fatal(err)
		}
	}
}

func BenchmarkSecret(b *testing.B) {
	secret, context := api.Hash(row(32)), row(40)
	for b.Loop() {
		Secret(secret, "path", context)
	}
}
