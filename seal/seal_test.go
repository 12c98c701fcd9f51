package seal

import (
	"bytes"
	"crypto/sha256"
	"encoding/binary"
	"encoding/hex"
	"errors"
	"math/rand/v2"
	"slices"
	"testing"

	"fellowship/api"
	"fellowship/onetime"
	"fellowship/stream"
)

// line is n bytes that differ along the way, by a rule that no block's length divides.
func line(n int) []byte {
	b := make([]byte, n)
	for i := range b {
		b[i] = byte(i*i + 7*i + i>>8)
	}
	return b
}

// ones is n bytes with all their bits set.
func ones(n int) []byte { return bytes.Repeat([]byte{0xff}, n) }

// unhex is the bytes that a text writes out.
func unhex(t *testing.T, s string) []byte {
	t.Helper()
	b, err := hex.DecodeString(s)
	if err != nil {
		t.Fatal(err)
	}
	return b
}

// sumOf is the digest of bytes, written out.
func sumOf(b []byte) string {
	sum := sha256.Sum256(b)
	return hex.EncodeToString(sum[:])
}

// noughts are those that bring b to a whole 16 bytes.
func noughts(b []byte) []byte {
	var out []byte
	for (len(b)+len(out))%16 != 0 {
		out = append(out, 0)
	}
	return out
}

// counts is how many bytes each of the rows has.
func counts(rows ...[]byte) []byte {
	var out []byte
	for _, b := range rows {
		out = binary.LittleEndian.AppendUint64(out, uint64(len(b)))
	}
	return out
}

// turnedBy is the stream's turn from a counter on.
func turnedBy(t *testing.T, key api.Key, counter uint32, nonce, b []byte) []byte {
	t.Helper()
	out, err := stream.Turn(key, counter, nonce, b)
	if err != nil {
		t.Fatal(err)
	}
	return out
}

// codeKeys are the two halves of the stream's block 0.
func codeKeys(t *testing.T, key api.Key, nonce []byte) (first, last api.Key) {
	t.Helper()
	block, err := stream.Block(key, 0, nonce)
	if err != nil {
		t.Fatal(err)
	}
	return api.Key(block[:32]), api.Key(block[32:])
}

// reference is what is sealed by the chapter's words, without its limits.
func reference(t *testing.T, key api.Key, nonce, with, plain []byte) []byte {
	t.Helper()
	once, _ := codeKeys(t, key, nonce)
	turned := turnedBy(t, key, 1, nonce, plain)
	code := onetime.Sum(once, with, noughts(with), turned, noughts(turned), counts(with, turned))
	return slices.Concat(turned, code[:])
}

// mustSeal is what is sealed.
func mustSeal(t *testing.T, key api.Key, nonce, with, plain []byte) []byte {
	t.Helper()
	sealed, err := Seal(key, nonce, with, plain)
	if err != nil {
		t.Fatalf("Seal of %d bytes with %d: %v", len(plain), len(with), err)
	}
	return sealed
}

// opens holds what is opened against the plain bytes.
func opens(t *testing.T, key api.Key, nonce, with, sealed, plain []byte) {
	t.Helper()
	got, err := Open(key, nonce, with, sealed)
	if err != nil || !bytes.Equal(got, plain) {
		t.Errorf("Open of %d bytes with %d: %x, %v, not %x", len(sealed), len(with), got, err, plain)
	}
}

// refused holds an answer against one error, beside which there are no bytes.
func refused(t *testing.T, what string, want error, got []byte, err error) {
	t.Helper()
	if !errors.Is(err, want) || got != nil {
		t.Errorf("%s: %d bytes, %v, not %v", what, len(got), err, want)
	}
}

// keys are some of all keys.
func keys() []api.Key {
	return []api.Key{{}, api.Key(line(32)), api.Key(ones(32)), {31: 1}, {0: 0x80}}
}

// nonces are some of all of 12 bytes.
func nonces() [][]byte {
	return [][]byte{make([]byte, 12), line(12), ones(12), {11: 1}, {0: 1, 11: 0}}
}

// wrongNonces are some that haven't 12 bytes.
func wrongNonces() [][]byte {
	out := [][]byte{nil, {}}
	for _, n := range []int{1, 4, 8, 11, 13, 16, 24, 32, 64, api.MaxText, api.MaxText + 1} {
		out = append(out, line(n), make([]byte, n))
	}
	// Room for 12 bytes makes none of them.
	return append(out, line(12)[:11], make([]byte, 0, 12))
}

func TestSealsThatAreWrittenOut(t *testing.T) {
	const (
		ladies = "Ladies and Gentlemen of the class of '99: If I could offer you only one tip for the future, sunscreen would be it."
		drafts = "Internet-Drafts are draft documents valid for a maximum of six months and may be updated, replaced, or obsoleted by other documents at any time. It is inappropriate to use Internet-Drafts as reference material or to cite them other than as /\xe2\x80\x9cwork in progress./\xe2\x80\x9d"
	)
	some := api.Key(line(32))
	for _, c := range []struct {
		name        string
		key         api.Key
		nonce       []byte
		with, plain []byte
		want        string
	}{
		{"the standard's example", api.Key(unhex(t, "808182838485868788898a8b8c8d8e8f909192939495969798999a9b9c9d9e9f")), unhex(t, "070000004041424344454647"), unhex(t, "50515253c0c1c2c3c4c5c6c7"), []byte(ladies), "d31a8d34648e60db7b86afbc53ef7ec2a4aded51296e08fea9e2b5a736ee62d63dbea45e8ca9671282fafb69da92728b1a71de0a9e060b2905d6a5b67ecd3b3692ddbd7f2d778b8c9803aee328091b58fab324e4fad675945585808b4831d7bc3ff4def08e4b7a9de576d26586cec64b61161ae10b594f09e26a7e902ecbd0600691"},
		{"the standard's example of opening", api.Key(unhex(t, "1c9240a5eb55d38af333888604f6b5f0473917c1402b80099dca5cbc207075c0")), unhex(t, "000000000102030405060708"), unhex(t, "f33388860000000000004e91"), []byte(drafts), "64a0861575861af460f062c79be643bd5e805cfd345cf389f108670ac76c8cb24c6cfc18755d43eea09ee94e382d26b0bdb7b73c321b0100d4f03b7f355894cf332f830e710b97ce98c8a84abd0b948114ad176e008d33bd60f982b1ff37c8559797a06ef4f0ef61c186324e2b3506383606907b6a7c02b0f9f6157b53c867e4b9166c767b804d46a59b5216cde7a4e99040c5a40433225ee282a1b0a06c523eaf4534d7f83fa1155b0047718cbc546a0d072b04b3564eea1b422273f548271a0bb2316053fa76991955ebd63159434ecebb4e466dae5a1073a6727627097a1049e617d91d361094fa68f0ff77987130305beaba2eda04df997b714d6c6f2c29a6ad5cb4022b02709beead9d67890cbb22392336fea1851f38"},
		// The bytes from here on are another program's.
		{"nothing, by noughts", api.Key{}, make([]byte, 12), nil, nil, "4eb972c9a8fb3a1b382bb4d36f5ffad1"},
		{"nothing", some, line(12), nil, nil, "950cca7823193df8872ea7c6ea5b9938"},
		{"with alone", some, line(12), []byte("with"), nil, "ebc192368767b3c6a6065fef7c3a1247"},
		{"plain alone", some, line(12), nil, []byte("text"), "89c1e8415eb7037aba112629af28caf2a97051e3"},
		{"both", some, line(12), []byte("with"), []byte("text"), "89c1e841b5be9e9dfd50f17204e3bd86512c5a36"},
		{"a nought each", some, line(12), []byte{0}, []byte{0}, "fd33fd61727c00d6b3cf56b0125d6399c2"},
		{"a block each", some, line(12), line(16), line(16), "fdac822bae97ba19abdf1825b8c0abfec8f5769188c952d8af0c2bd66466298f"},
		{"ones", api.Key(ones(32)), ones(12), ones(17), ones(65), "22d8bfc313e141bd692c82cec7785b295f8ddae08dbbc49a2deb545ef8a39534d8c0bdab2521070568ade0405d54eebcfecd35122cb5133d931f64722e05352292ce83199f9a11a8bc58e4d8c1cd7e6f88"},
	} {
		got, err := Seal(c.key, c.nonce, c.with, c.plain)
		if err != nil || hex.EncodeToString(got) != c.want {
			t.Errorf("Seal of %s: %x, %v, not %s", c.name, got, err, c.want)
		}
		opens(t, c.key, c.nonce, c.with, unhex(t, c.want), c.plain)
	}
}

func TestSealsOfMostWhoseSumsAreWrittenOut(t *testing.T) {
	// The sums are those of another program's bytes.
	for _, c := range []struct {
		key                api.Key
		nonce, with, plain []byte
		want               string
	}{
		{api.Key(line(32)), line(12), line(api.MaxText), line(api.MaxText), "2917d01626d867d8fc264903cc47d815762b198c951396dc929ece85c5c817b5"},
		{api.Key(line(32)), line(12), nil, line(api.MaxText), "8a834c39ad60920e73aafe6396e9e88ab8d1572514e8fa2d4c941e9300f985c4"},
		{api.Key(line(32)), line(12), line(api.MaxText), nil, "e68ffe8bb4f4ceb3a857d8eaf8b00e811ed048633d46043f8f0a725ea0c51886"},
		{api.Key(ones(32)), ones(12), ones(api.MaxText), ones(api.MaxText), "ffba40f20801bb7d7557e9e8fa4c9509c924cfee67ee621b73a67c5f4ff1eb51"},
		{api.Key(line(32)), line(12), line(api.MaxText - 1), line(api.MaxText - 1), "d75d1ffd23b1f687f830d4aed3726eb795edfd38727acb3159ed0f94db232b5d"},
	} {
		got, err := Seal(c.key, c.nonce, c.with, c.plain)
		if err != nil || len(got) != len(c.plain)+16 || sumOf(got) != c.want {
			t.Errorf("Seal of %d bytes with %d: %d bytes of sum %s, %v", len(c.plain), len(c.with), len(got), sumOf(got), err)
		}
		opens(t, c.key, c.nonce, c.with, got, c.plain)
	}
}

func TestEveryLengthAboutTheBlocks(t *testing.T) {
	// The sum is that of another program's bytes, all of them one behind the other.
	const want = "a180ce2d248dc5f6c8a5201d6913d38903cd0422458af3ef831edea6685d7a9d"
	var all []byte
	for a := range 50 {
		for p := range 200 {
			key, nonce := api.Key(line(32)), line(12)
			key[a%32] ^= byte(p)
			nonce[p%12] ^= byte(a)
			sealed := mustSeal(t, key, nonce, line(a), line(p))
			if !bytes.Equal(sealed, reference(t, key, nonce, line(a), line(p))) {
				t.Errorf("Seal of %d bytes with %d: %x", p, a, sealed)
			}
			opens(t, key, nonce, line(a), sealed, line(p))
			all = append(all, sealed...)
		}
	}
	if sumOf(all) != want {
		t.Errorf("all lengths have the sum %s, not %s", sumOf(all), want)
	}
}

func TestOfNoBytesSealIs16(t *testing.T) {
	for _, key := range keys() {
		for _, nonce := range nonces() {
			for _, none := range [][]byte{nil, {}, line(20)[:0]} {
				sealed := mustSeal(t, key, nonce, none, none)
				if len(sealed) != 16 || !bytes.Equal(sealed, reference(t, key, nonce, nil, nil)) {
					t.Errorf("Seal of no bytes: %x", sealed)
				}
				opens(t, key, nonce, none, sealed, nil)
			}
		}
	}
}

func TestWhatIsSealedIsOpened(t *testing.T) {
	for _, key := range keys() {
		for _, nonce := range nonces() {
			for _, a := range []int{0, 1, 15, 16, 17, 64, 1000, api.MaxText} {
				for _, p := range []int{0, 1, 16, 63, 64, 65, 1000, api.MaxText} {
					for _, plain := range [][]byte{line(p), make([]byte, p)} {
						sealed := mustSeal(t, key, nonce, line(a), plain)
						if len(sealed) != p+16 {
							t.Errorf("Seal of %d bytes has %d", p, len(sealed))
						}
						opens(t, key, nonce, line(a), sealed, plain)
					}
				}
			}
		}
	}
}

func TestManyTextsAreSealedAndOpened(t *testing.T) {
	draw := rand.New(rand.NewPCG(8, 8439))
	some := func(n int) []byte {
		b := make([]byte, n)
		for i := range b {
			b[i] = byte(draw.Uint32())
		}
		return b
	}
	for range 3000 {
		key, nonce := api.Key(some(32)), some(12)
		with, plain := some(draw.IntN(100)), some(draw.IntN(300))
		sealed := mustSeal(t, key, nonce, with, plain)
		if want := reference(t, key, nonce, with, plain); !bytes.Equal(sealed, want) {
			t.Errorf("Seal(%x, %x, %x, %x): %x, not %x", key, nonce, with, plain, sealed, want)
		}
		opens(t, key, nonce, with, sealed, plain)
	}
}

func TestNoncesOfOtherLengths(t *testing.T) {
	// ErrForm stands ahead of ErrShort, ErrLong and ErrSeal.
	for _, nonce := range wrongNonces() {
		for _, a := range []int{0, 5, api.MaxText, api.MaxText + 1} {
			for _, n := range []int{0, 1, 15, 16, 40, api.MaxText, api.MaxText + 1, api.MaxText + 16, api.MaxText + 17, api.MaxBytes + 1} {
				got, err := Seal(api.Key{1}, nonce, line(a), line(n))
				refused(t, "Seal with a wrong nonce", api.ErrForm, got, err)
				got, err = Open(api.Key{1}, nonce, line(a), line(n))
				refused(t, "Open with a wrong nonce", api.ErrForm, got, err)
			}
		}
	}
}

func TestSealOfTooManyBytes(t *testing.T) {
	for _, n := range []int{api.MaxText + 1, api.MaxText + 16, api.MaxBytes, api.MaxBytes + 1, 1 << 20} {
		for _, most := range []int{0, 1, api.MaxText, n} {
			got, err := Seal(api.Key{1}, line(12), make([]byte, n), line(most))
			refused(t, "Seal with too many bytes", api.ErrLong, got, err)
			got, err = Seal(api.Key{1}, line(12), line(most), make([]byte, n))
			refused(t, "Seal of too many bytes", api.ErrLong, got, err)
		}
	}
}

func TestOpenOfTooFewBytes(t *testing.T) {
	// ErrShort stands ahead of ErrLong, whatever the bytes are.
	key, nonce := api.Key(line(32)), line(12)
	whole := mustSeal(t, key, nonce, nil, nil)
	for n := range 16 {
		for _, with := range [][]byte{nil, line(7), line(api.MaxText), line(api.MaxText + 1), line(api.MaxBytes + 1)} {
			for _, b := range [][]byte{whole[:n], whole[16-n:], make([]byte, n), ones(n)} {
				got, err := Open(key, nonce, with, b)
				refused(t, "Open of too few bytes", api.ErrShort, got, err)
			}
		}
	}
	got, err := Open(key, nonce, nil, nil)
	refused(t, "Open of nil", api.ErrShort, got, err)
}

func TestOpenOfTooManyBytes(t *testing.T) {
	// ErrLong stands ahead of ErrSeal; a code that is right doesn't help.
	key, nonce := api.Key(line(32)), line(12)
	for _, c := range []struct{ with, plain int }{
		{api.MaxText + 1, 0},
		{api.MaxText + 1, api.MaxText},
		{0, api.MaxText + 1},
		{api.MaxText, api.MaxText + 1},
		{api.MaxText + 1, api.MaxText + 1},
		{0, api.MaxText + 16},
		{api.MaxText + 16, 0},
		{0, api.MaxBytes},
		{api.MaxBytes + 1, 100},
	} {
		sealed := reference(t, key, nonce, line(c.with), line(c.plain))
		got, err := Open(key, nonce, line(c.with), sealed)
		refused(t, "Open of too many bytes with their code", api.ErrLong, got, err)
		sealed[len(sealed)-1] ^= 1
		got, err = Open(key, nonce, line(c.with), sealed)
		refused(t, "Open of too many bytes with a wrong code", api.ErrLong, got, err)
	}
	got, err := Open(key, nonce, nil, make([]byte, 1<<20))
	refused(t, "Open of very many bytes", api.ErrLong, got, err)
}

func TestOpenAtTheLimits(t *testing.T) {
	key, nonce := api.Key(line(32)), line(12)
	sealed := mustSeal(t, key, nonce, line(api.MaxText), line(api.MaxText))
	opens(t, key, nonce, line(api.MaxText), sealed, line(api.MaxText))
	for _, at := range []int{0, 8191, api.MaxText - 1, api.MaxText, api.MaxText + 15} {
		spoilt := bytes.Clone(sealed)
		spoilt[at] ^= 0x10
		got, err := Open(key, nonce, line(api.MaxText), spoilt)
		refused(t, "Open of most, spoilt", api.ErrSeal, got, err)
	}
	for _, at := range []int{0, 8191, api.MaxText - 1} {
		with := line(api.MaxText)
		with[at] ^= 1
		got, err := Open(key, nonce, with, sealed)
		refused(t, "Open of most with other bytes", api.ErrSeal, got, err)
	}
}

func TestEveryBitOfWhatIsSealedTells(t *testing.T) {
	key, nonce := api.Key(line(32)), line(12)
	for _, p := range []int{0, 1, 15, 16, 17, 70} {
		for _, a := range []int{0, 3, 16} {
			sealed := mustSeal(t, key, nonce, line(a), line(p))
			for i := range 8 * len(sealed) {
				spoilt := bytes.Clone(sealed)
				spoilt[i/8] ^= 1 << (i % 8)
				got, err := Open(key, nonce, line(a), spoilt)
				refused(t, "Open of bytes with one bit spoilt", api.ErrSeal, got, err)
			}
		}
	}
}

func TestEveryBitOfTheOtherArgumentsTells(t *testing.T) {
	key, nonce, with := api.Key(line(32)), line(12), line(37)
	for _, plain := range [][]byte{nil, line(50)} {
		sealed := mustSeal(t, key, nonce, with, plain)
		for i := range 8 * len(key) {
			other := key
			other[i/8] ^= 1 << (i % 8)
			got, err := Open(other, nonce, with, sealed)
			refused(t, "Open by a key of another bit", api.ErrSeal, got, err)
		}
		for i := range 8 * len(nonce) {
			other := bytes.Clone(nonce)
			other[i/8] ^= 1 << (i % 8)
			got, err := Open(key, other, with, sealed)
			refused(t, "Open by a nonce of another bit", api.ErrSeal, got, err)
		}
		for i := range 8 * len(with) {
			other := bytes.Clone(with)
			other[i/8] ^= 1 << (i % 8)
			got, err := Open(key, nonce, other, sealed)
			refused(t, "Open with bytes of another bit", api.ErrSeal, got, err)
		}
	}
}

func TestBytesMoreOrLessTell(t *testing.T) {
	key, nonce := api.Key(line(32)), line(12)
	for _, p := range []int{0, 1, 15, 16, 17, 50} {
		// Noughts, which the padding has too.
		for _, text := range [][]byte{line(p), turnedBy(t, key, 1, nonce, make([]byte, p))} {
			sealed := mustSeal(t, key, nonce, line(20), text)
			code := sealed[p:]
			for n := 1; n <= 33; n++ {
				got, err := Open(key, nonce, line(20), slices.Concat(sealed[:p], make([]byte, n), code))
				refused(t, "Open of noughts more ahead of the code", api.ErrSeal, got, err)
				got, err = Open(key, nonce, line(20), slices.Concat(sealed, make([]byte, n)))
				refused(t, "Open of noughts more behind the code", api.ErrSeal, got, err)
				got, err = Open(key, nonce, slices.Concat(line(20), make([]byte, n)), sealed)
				refused(t, "Open with noughts more", api.ErrSeal, got, err)
			}
			for n := range p {
				got, err := Open(key, nonce, line(20), slices.Concat(sealed[:n], code))
				refused(t, "Open of fewer bytes", api.ErrSeal, got, err)
				got, err = Open(key, nonce, line(20), sealed[:16+n])
				refused(t, "Open of a piece", api.ErrSeal, got, err)
				got, err = Open(key, nonce, line(20), sealed[p-n:])
				refused(t, "Open of a hind piece", api.ErrSeal, got, err)
			}
			for n := range 20 {
				got, err := Open(key, nonce, line(n), sealed)
				refused(t, "Open with fewer bytes", api.ErrSeal, got, err)
			}
		}
	}
}

func TestWhereWithEndsTells(t *testing.T) {
	// What stands on one side of the parting can't be moved to the other.
	key, nonce := api.Key(line(32)), line(12)
	sealed := mustSeal(t, key, nonce, line(48), line(48))
	turned, code := sealed[:48], sealed[48:]
	all := slices.Concat(line(48), turned)
	for at := range len(all) + 1 {
		if at == 48 {
			continue
		}
		got, err := Open(key, nonce, all[:at], slices.Concat(all[at:], code))
		refused(t, "Open with the parting moved", api.ErrSeal, got, err)
	}
	got, err := Open(key, nonce, turned, slices.Concat(line(48), code))
	refused(t, "Open with both changed about", api.ErrSeal, got, err)
}

func TestCodesOfOtherRulesAreWrong(t *testing.T) {
	key, nonce := api.Key(line(32)), line(12)
	with, plain := line(21), line(39)
	once, last := codeKeys(t, key, nonce)
	turned := turnedBy(t, key, 1, nonce, plain)
	w, n := noughts(with), noughts(turned)
	big := binary.BigEndian.AppendUint64(binary.BigEndian.AppendUint64(nil, 21), 39)
	bits := binary.LittleEndian.AppendUint64(binary.LittleEndian.AppendUint64(nil, 8*21), 8*39)
	wholes := counts(make([]byte, 32), make([]byte, 48))
	for name, code := range map[string][16]byte{
		"nothing":                     onetime.Sum(once),
		"no noughts":                  onetime.Sum(once, with, turned, counts(with, turned)),
		"noughts behind with alone":   onetime.Sum(once, with, w, turned, counts(with, turned)),
		"noughts behind turned alone": onetime.Sum(once, with, turned, n, counts(with, turned)),
		"no counts":                   onetime.Sum(once, with, w, turned, n),
		"counts turned round":         onetime.Sum(once, with, w, turned, n, counts(turned, with)),
		"high bytes first":            onetime.Sum(once, with, w, turned, n, big),
		"counts of bits":              onetime.Sum(once, with, w, turned, n, bits),
		"counts with noughts":         onetime.Sum(once, with, w, turned, n, wholes),
		"counts in front":             onetime.Sum(once, counts(with, turned), with, w, turned, n),
		"counts interleaved":          onetime.Sum(once, with, w, counts(with), turned, n, counts(turned)),
		"turned first":                onetime.Sum(once, turned, n, with, w, counts(with, turned)),
		"plain bytes":                 onetime.Sum(once, with, w, plain, n, counts(with, plain)),
		"no with":                     onetime.Sum(once, turned, n, counts(nil, turned)),
		"the block's end":             onetime.Sum(last, with, w, turned, n, counts(with, turned)),
		"the key itself":              onetime.Sum(key, with, w, turned, n, counts(with, turned)),
	} {
		got, err := Open(key, nonce, with, slices.Concat(turned, code[:]))
		refused(t, "Open of a code by "+name, api.ErrSeal, got, err)
	}
	// The bytes of block 0 are the code's alone.
	early := turnedBy(t, key, 0, nonce, plain)
	code := onetime.Sum(once, with, w, early, n, counts(with, early))
	if got, err := Open(key, nonce, with, slices.Concat(early, code[:])); err != nil || bytes.Equal(got, plain) {
		t.Errorf("bytes that were turned from counter 0 on: %x, %v", got, err)
	}
	for _, b := range [][]byte{make([]byte, 16), ones(16), make([]byte, 55), slices.Concat(plain, make([]byte, 16))} {
		got, err := Open(key, nonce, with, b)
		refused(t, "Open of what nobody sealed", api.ErrSeal, got, err)
	}
}

func TestWhatHasItsCodeIsOpened(t *testing.T) {
	// Whatever bytes have their code are what Seal makes of their plain ones.
	draw := rand.New(rand.NewPCG(8, 1))
	for _, key := range keys() {
		for _, nonce := range nonces() {
			once, _ := codeKeys(t, key, nonce)
			for _, p := range []int{0, 1, 16, 31, 64, 100} {
				turned := make([]byte, p)
				for i := range turned {
					turned[i] = byte(draw.Uint32())
				}
				code := onetime.Sum(once, line(9), noughts(line(9)), turned, noughts(turned), counts(line(9), turned))
				sealed := slices.Concat(turned, code[:])
				plain, err := Open(key, nonce, line(9), sealed)
				if err != nil || !bytes.Equal(mustSeal(t, key, nonce, line(9), plain), sealed) {
					t.Errorf("Seal of what %x opens to isn't that: %v", sealed, err)
				}
			}
		}
	}
}

func TestBytesAreNeitherChangedNorKept(t *testing.T) {
	for _, n := range []int{0, 1, 15, 16, 17, 70} {
		// Room behind, which must stay as it is too.
		with, nonce := append(line(n), ones(40)...)[:n], append(line(12), ones(40)...)[:12]
		plain := append(line(n), ones(40)...)[:n]
		key := api.Key(line(32))
		sealed := append(mustSeal(t, key, nonce, with, plain), ones(40)...)[:n+16]
		want := reference(t, key, line(12), line(n), line(n))
		opened, err := Open(key, nonce, with, sealed)
		if err != nil {
			t.Fatal(err)
		}
		for name, pair := range map[string][2][]byte{
			"with":   {with[:n+40], append(line(n), ones(40)...)},
			"plain":  {plain[:n+40], append(line(n), ones(40)...)},
			"nonce":  {nonce[:52], append(line(12), ones(40)...)},
			"sealed": {sealed[:n+56], slices.Concat(want, ones(40))},
		} {
			if !bytes.Equal(pair[0], pair[1]) {
				t.Errorf("%s of %d bytes is changed", name, n)
			}
		}
		again := mustSeal(t, key, nonce, with, plain)
		clear(with)
		clear(nonce)
		clear(plain)
		clear(sealed)
		clear(key[:])
		if !bytes.Equal(again, want) || !bytes.Equal(opened, line(n)) {
			t.Errorf("a later change shows in what was answered of %d bytes", n)
		}
	}
}

func TestAnErrorChangesNothing(t *testing.T) {
	key, nonce, with := api.Key(line(32)), line(12), line(20)
	sealed := mustSeal(t, key, nonce, with, line(50))
	sealed[3] ^= 1
	was := bytes.Clone(sealed)
	got, err := Open(key, nonce, with, sealed)
	refused(t, "Open of spoilt bytes", api.ErrSeal, got, err)
	if !bytes.Equal(sealed, was) || !bytes.Equal(with, line(20)) || !bytes.Equal(nonce, line(12)) {
		t.Error("bytes that weren't opened are changed")
	}
	sealed[3] ^= 1
	opens(t, key, nonce, with, sealed, line(50))
}

func TestAnswersAreTheCallersOwn(t *testing.T) {
	key, nonce := api.Key(line(32)), line(12)
	sealed := reference(t, key, nonce, line(20), line(90))
	for name, call := range map[string]func() ([]byte, error){
		"Seal": func() ([]byte, error) { return Seal(key, nonce, line(20), line(90)) },
		"Open": func() ([]byte, error) { return Open(key, nonce, line(20), sealed) },
	} {
		first, err := call()
		if err != nil {
			t.Fatal(err)
		}
		was := bytes.Clone(first)
		clear(first[:cap(first)])
		if second, err := call(); err != nil || !bytes.Equal(second, was) {
			t.Errorf("%s hangs on what was done to an answer of it", name)
		}
	}
}

func TestOneRowMayBeAllArguments(t *testing.T) {
	key, b := api.Key(line(32)), line(12)
	sealed := mustSeal(t, key, b, b, b)
	if !bytes.Equal(sealed, reference(t, key, line(12), line(12), line(12))) {
		t.Errorf("Seal of the nonce itself with itself: %x", sealed)
	}
	opens(t, key, b, b, sealed, line(12))

	long := line(300)
	sealed = mustSeal(t, key, long[50:62], long[40:200], long)
	if !bytes.Equal(sealed, reference(t, key, line(300)[50:62], line(300)[40:200], line(300))) {
		t.Error("Seal of bytes that hold the nonce and with is wrong")
	}
	opens(t, key, long[50:62], long[40:200], sealed, line(300))
	got, err := Open(key, b, sealed, sealed)
	refused(t, "Open with what is sealed itself", api.ErrSeal, got, err)
}

func BenchmarkSealMost(b *testing.B) {
	key, nonce, text := api.Key(line(32)), line(12), line(api.MaxText)
	b.SetBytes(api.MaxText)
	for b.Loop() {
		if _, err := Seal(key, nonce, nil, text); err != nil {
			b.Fatal(err)
		}
	}
}
