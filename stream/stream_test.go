package stream

import (
	"bytes"
	"crypto/sha256"
	"encoding/binary"
	"encoding/hex"
	"errors"
	"math"
	"math/bits"
	"testing"

	"fellowship/api"
)

// row is n bytes that differ along the way, by a rule that no block's length divides.
func row(n int) []byte {
	b := make([]byte, n)
	for i := range b {
		b[i] = byte(i*i + 7*i + i>>8)
	}
	return b
}

// unhex is the bytes that a text writes out.
func unhex(t *testing.T, s string) []byte {
	t.Helper()
	b, err := hex.DecodeString(s)
	if err != nil {
		t.Fatal(err)
	}
	return b
}

// rising is the standard's key of the bytes 0 to 31.
func rising() api.Key {
	var k api.Key
	for i := range k {
		k[i] = byte(i)
	}
	return k
}

// quartered works four words of a square in place, as the standard's own lines do.
func quartered(w *[16]uint32, a, b, c, d int) {
	w[a] += w[b]
	w[d] = bits.RotateLeft32(w[d]^w[a], 16)
	w[c] += w[d]
	w[b] = bits.RotateLeft32(w[b]^w[c], 12)
	w[a] += w[b]
	w[d] = bits.RotateLeft32(w[d]^w[a], 8)
	w[c] += w[d]
	w[b] = bits.RotateLeft32(w[b]^w[c], 7)
}

// reference is a block with the standard's eight lines of a double round written out.
func reference(key api.Key, counter uint32, nonce []byte) []byte {
	w := [16]uint32{0x61707865, 0x3320646e, 0x79622d32, 0x6b206574}
	for i := range 8 {
		w[4+i] = binary.LittleEndian.Uint32(key[4*i:])
	}
	w[12] = counter
	for i := range 3 {
		w[13+i] = binary.LittleEndian.Uint32(nonce[4*i:])
	}
	first := w
	for range 10 {
		quartered(&w, 0, 4, 8, 12)
		quartered(&w, 1, 5, 9, 13)
		quartered(&w, 2, 6, 10, 14)
		quartered(&w, 3, 7, 11, 15)
		quartered(&w, 0, 5, 10, 15)
		quartered(&w, 1, 6, 11, 12)
		quartered(&w, 2, 7, 8, 13)
		quartered(&w, 3, 4, 9, 14)
	}
	var out []byte
	for i := range w {
		out = binary.LittleEndian.AppendUint32(out, w[i]+first[i])
	}
	return out
}

// referenceTurn is the bytes turned one by one, each by a block found by its place.
func referenceTurn(key api.Key, counter uint32, nonce, b []byte) []byte {
	var out, block []byte
	for i, c := range b {
		if i%64 == 0 {
			block = reference(key, counter+uint32(i/64), nonce)
		}
		out = append(out, c^block[i%64])
	}
	return out
}

// keys are some of all keys.
func keys() []api.Key {
	return []api.Key{{}, rising(), api.Key(row(32)), api.Key(bytes.Repeat([]byte{0xff}, 32)), {31: 1}, {0: 0x80}}
}

// nonces are some of all of 12 bytes.
func nonces() [][]byte {
	return [][]byte{make([]byte, 12), row(12), bytes.Repeat([]byte{0xff}, 12), {11: 1}, {0: 1, 11: 0}, {3: 0x80, 11: 0}}
}

// counters are those about which a word's bytes and the word itself wrap round.
func counters() []uint32 {
	return []uint32{0, 1, 2, 0xff, 0x100, 0xffff, 0x10000, 0xffffff, 0x1000000, 0x7fffffff, 0x80000000, math.MaxUint32 - 2, math.MaxUint32 - 1, math.MaxUint32}
}

// wrongNonces are some that haven't 12 bytes.
func wrongNonces() [][]byte {
	out := [][]byte{nil, {}}
	for _, n := range []int{1, 4, 8, 11, 13, 16, 24, 32, 64, api.MaxBytes, api.MaxBytes + 12} {
		out = append(out, row(n), make([]byte, n))
	}
	// Room for 12 bytes makes none of them.
	return append(out, row(12)[:11], make([]byte, 0, 12))
}

func TestQuartersThatAreWrittenOut(t *testing.T) {
	for _, c := range []struct{ from, to [4]uint32 }{
		{[4]uint32{0x11111111, 0x01020304, 0x9b8d6f43, 0x01234567}, [4]uint32{0xea2a92f4, 0xcb1cf8ce, 0x4581472e, 0x5881c4bb}},
		{[4]uint32{0x516461b1, 0x2a5f714c, 0x53372767, 0x3d631689}, [4]uint32{0xbdb886dc, 0xcfacafd2, 0xe46bea80, 0xccc07c79}},
		{[4]uint32{}, [4]uint32{}},
		{[4]uint32{1, 0, 0, 0}, [4]uint32{0x10000001, 0x80808808, 0x01010110, 0x01000110}},
	} {
		a, b, x, d := Quarter(c.from[0], c.from[1], c.from[2], c.from[3])
		if got := [4]uint32{a, b, x, d}; got != c.to {
			t.Errorf("Quarter of %#x: %#x, not %#x", c.from, got, c.to)
		}
	}
}

func TestQuarterOfManyWords(t *testing.T) {
	some := []uint32{0, 1, 2, 0x80, 0x8000, 0xffff, 0x10000, 0x7fffffff, 0x80000000, 0x80000001, 0xdeadbeef, 0xfffffffe, math.MaxUint32}
	for _, a := range some {
		for _, b := range some {
			for _, c := range some {
				for _, d := range some {
					want := [16]uint32{a, b, c, d}
					quartered(&want, 0, 1, 2, 3)
					w, x, y, z := Quarter(a, b, c, d)
					if got := [16]uint32{w, x, y, z}; got != want {
						t.Fatalf("Quarter(%#x, %#x, %#x, %#x): %#x, not %#x", a, b, c, d, got[:4], want[:4])
					}
				}
			}
		}
	}
}

func TestBlocksThatAreWrittenOut(t *testing.T) {
	for _, c := range []struct {
		name    string
		key     api.Key
		counter uint32
		nonce   string
		want    string
	}{
		{"the standard's example", rising(), 1, "000000090000004a00000000", "10f1e7e4d13b5915500fdd1fa32071c4c7d1f4c733c068030422aa9ac3d46c4ed2826446079faa0914c2d705d98b02a2b5129cd1de164eb9cbd083e8a2503c4e"},
		{"all noughts", api.Key{}, 0, "000000000000000000000000", "76b8e0ada0f13d90405d6ae55386bd28bdd219b8a08ded1aa836efcc8b770dc7da41597c5157488d7724e03fb8d84a376a43b8f41518a11cc387b669b2ee6586"},
		{"counter 1", api.Key{}, 1, "000000000000000000000000", "9f07e7be5551387a98ba977c732d080dcb0f29a048e3656912c6533e32ee7aed29b721769ce64e43d57133b074d839d531ed1f28510afb45ace10a1f4b794d6f"},
		{"a key's last bit", api.Key{31: 1}, 1, "000000000000000000000000", "3aeb5224ecf849929b9d828db1ced4dd832025e8018b8160b82284f3c949aa5a8eca00bbb4a73bdad192b5c42f73f2fd4e273644c8b36125a64addeb006c13a0"},
		{"a key's second byte", api.Key{1: 0xff}, 2, "000000000000000000000000", "72d54dfbf12ec44b362692df94137f328fea8da73990265ec1bbbea1ae9af0ca13b25aa26cb4a648cb9b9d1be65b2c0924a66c54d545ec1b7374f4872e99f096"},
		{"a nonce's last byte", api.Key{}, 0, "000000000000000000000002", "c2c64d378cd536374ae204b9ef933fcd1a8b2288b3dfa49672ab765b54ee27c78a970e0e955c14f3a88e741b97c286f75f8fc299e8148362fa198a39531bed6d"},
		{"all ones", api.Key(bytes.Repeat([]byte{0xff}, 32)), math.MaxUint32, "ffffffffffffffffffffffff", "d72b21cfa4b6b0c41d61f62b8a11159c6a4f63bc56c2035796c7ad37811121bbec56d54a530f3a933dd28a50feb23bfaf64f405be985f3718bdf4683e96be749"},
	} {
		got, err := Block(c.key, c.counter, unhex(t, c.nonce))
		if err != nil || hex.EncodeToString(got) != c.want {
			t.Errorf("Block of %s: %x, %v, not %s", c.name, got, err, c.want)
		}
	}
}

func TestBlocksOfManyArguments(t *testing.T) {
	for _, key := range keys() {
		for _, nonce := range nonces() {
			for _, counter := range counters() {
				got, err := Block(key, counter, nonce)
				if want := reference(key, counter, nonce); err != nil || !bytes.Equal(got, want) {
					t.Errorf("Block(%x, %#x, %x): %x, %v, not %x", key, counter, nonce, got, err, want)
				}
			}
		}
	}
}

func TestEveryBitOfTheArgumentsTells(t *testing.T) {
	key, nonce := rising(), row(12)
	check := func(key api.Key, counter uint32, nonce []byte, what string, i int) {
		got, err := Block(key, counter, nonce)
		if err != nil || !bytes.Equal(got, reference(key, counter, nonce)) {
			t.Errorf("Block with bit %d of the %s turned: %x, %v", i, what, got, err)
		}
		if bytes.Equal(got, reference(rising(), 5, row(12))) {
			t.Errorf("bit %d of the %s is lost", i, what)
		}
	}
	for i := range 256 {
		other := key
		other[i/8] ^= 1 << (i % 8)
		check(other, 5, nonce, "key", i)
	}
	for i := range 32 {
		check(key, 5^1<<i, nonce, "counter", i)
	}
	for i := range 96 {
		other := bytes.Clone(nonce)
		other[i/8] ^= 1 << (i % 8)
		check(key, 5, other, "nonce", i)
	}
}

func TestTurnsThatAreWrittenOut(t *testing.T) {
	for _, c := range []struct {
		key, nonce, text, want string
		counter                uint32
	}{
		{
			"000102030405060708090a0b0c0d0e0f101112131415161718191a1b1c1d1e1f", "000000000000004a00000000",
			"Ladies and Gentlemen of the class of '99: If I could offer you only one tip for the future, sunscreen would be it.",
			"6e2e359a2568f98041ba0728dd0d6981e97e7aec1d4360c20a27afccfd9fae0bf91b65c5524733ab8f593dabcd62b3571639d624e65152ab8f530c359f0861d807ca0dbf500d6a6156a38e088a22b65e52bc514d16ccf806818ce91ab77937365af90bbf74a35be6b40b8eedf2785e42874d",
			1,
		},
		{
			"1c9240a5eb55d38af333888604f6b5f0473917c1402b80099dca5cbc207075c0", "000000000000000000000002",
			"'Twas brillig, and the slithy toves\nDid gyre and gimble in the wabe:\nAll mimsy were the borogoves,\nAnd the mome raths outgrabe.",
			"62e6347f95ed87a45ffae7426f27a1df5fb69110044c0d73118effa95b01e5cf166d3df2d721caf9b21e5fb14c616871fd84c54f9d65b283196c7fe4f60553ebf39c6402c42234e32a356b3e764312a61a5532055716ead6962568f87d3f3f7704c6a8d1bcd1bf4d50d6154b6da731b187b58dfd728afa36757a797ac188d1",
			42,
		},
		{
			"0000000000000000000000000000000000000000000000000000000000000001", "000000000000000000000002",
			"Any submission to the IETF intended by the Contributor for publication as all or part of an IETF Internet-Draft or RFC and any statement made within the context of an IETF activity is considered an \"IETF Contribution\". Such statements include oral statements in IETF sessions, as well as written and electronic communications made at any time or place, which are addressed to",
			"a3fbf07df3fa2fde4f376ca23e82737041605d9f4f4f57bd8cff2c1d4b7955ec2a97948bd3722915c8f3d337f7d370050e9e96d647b7c39f56e031ca5eb6250d4042e02785ececfa4b4bb5e8ead0440e20b6e8db09d881a7c6132f420e52795042bdfa7773d8a9051447b3291ce1411c680465552aa6c405b7764d5e87bea85ad00f8449ed8f72d0d662ab052691ca66424bc86d2df80ea41f43abf937d3259dc4b2d0dfb48a6c9139ddd7f76966e928e635553ba76c5c879d7b35d49eb2e62b0871cdac638939e25e8a1e0ef9d5280fa8ca328b351c3c765989cbcf3daa8b6ccc3aaf9f3979c92b3720fc88dc95ed84a1be059c6499b9fda236e7e818b04b0bc39c1e876b193bfe5569753f88128cc08aaa9b63d1a16f80ef2554d7189c411f5869ca52c5b83fa36ff216b9c1d30062bebcfd2dc5bce0911934fda79a86f6e698ced759c3ff9b6477338f3da4f9cd8514ea9982ccafb341b2384dd902f3d1ab7ac61dd29c6f21ba5b862f3730e37cfdc4fd806c22f221",
			1,
		},
	} {
		key, nonce := api.Key(unhex(t, c.key)), unhex(t, c.nonce)
		got, err := Turn(key, c.counter, nonce, []byte(c.text))
		if err != nil || hex.EncodeToString(got) != c.want {
			t.Errorf("Turn of %q: %x, %v", c.text, got, err)
		}
		back, err := Turn(key, c.counter, nonce, unhex(t, c.want))
		if err != nil || string(back) != c.text {
			t.Errorf("Turn back to %q: %q, %v", c.text, back, err)
		}
	}
}

func TestTurnOfMost(t *testing.T) {
	// The sum is that of another program's stream.
	const want = "7ee9ae9873e5060c55ba89d7c41b1d91cc2899e18c79f89df648ca174b583f30"
	got, err := Turn(rising(), 7, unhex(t, "101112131415161718191a1b"), make([]byte, api.MaxBytes))
	if sum := sha256.Sum256(got); err != nil || len(got) != api.MaxBytes || hex.EncodeToString(sum[:]) != want {
		t.Errorf("Turn of as many bytes as may be: %d bytes of sum %x, %v", len(got), sum, err)
	}
}

func TestEveryLengthAboutTheBlocks(t *testing.T) {
	key, nonce := api.Key(row(32)), row(12)
	for n := range 5*64 + 2 {
		for _, counter := range []uint32{0, 1, math.MaxUint32 - 1} {
			got, err := Turn(key, counter, nonce, row(n))
			if err != nil || !bytes.Equal(got, referenceTurn(key, counter, nonce, row(n))) {
				t.Errorf("Turn of %d bytes from %#x on: %x, %v", n, counter, got, err)
			}
		}
	}
	for _, n := range []int{1000, 4096, api.MaxText, api.MaxBytes - 64, api.MaxBytes - 1, api.MaxBytes} {
		got, err := Turn(key, 3, nonce, row(n))
		if err != nil || !bytes.Equal(got, referenceTurn(key, 3, nonce, row(n))) {
			t.Errorf("Turn of %d bytes is wrong, or has the error %v", n, err)
		}
	}
}

func TestTurnOfNoughtsIsTheBlocks(t *testing.T) {
	for _, key := range keys() {
		for _, nonce := range nonces() {
			for _, counter := range counters() {
				var want []byte
				for i := range uint32(4) {
					block, err := Block(key, counter+i, nonce)
					if err != nil {
						t.Fatal(err)
					}
					want = append(want, block...)
				}
				got, err := Turn(key, counter, nonce, make([]byte, 4*64))
				if err != nil || !bytes.Equal(got, want) {
					t.Errorf("Turn from %#x on isn't the blocks one behind the other: %v", counter, err)
				}
			}
		}
	}
}

func TestTheCounterWrapsRound(t *testing.T) {
	for _, nonce := range nonces() {
		got, err := Turn(rising(), math.MaxUint32, nonce, make([]byte, 3*64))
		if err != nil {
			t.Fatal(err)
		}
		for i, counter := range []uint32{math.MaxUint32, 0, 1} {
			if !bytes.Equal(got[64*i:64*(i+1)], reference(rising(), counter, nonce)) {
				t.Errorf("block %d from the greatest counter on isn't that of counter %d with nonce %x", i, counter, nonce)
			}
		}
	}
	// The wrap stands anywhere among as many blocks as may be.
	for _, ahead := range []uint32{1, 500, 1023} {
		got, err := Turn(rising(), -ahead, row(12), make([]byte, api.MaxBytes))
		if err != nil || !bytes.Equal(got, referenceTurn(rising(), -ahead, row(12), make([]byte, api.MaxBytes))) {
			t.Errorf("Turn with %d blocks ahead of the wrap is wrong, or has the error %v", ahead, err)
		}
	}
}

func TestTurnedTwiceIsAsItWas(t *testing.T) {
	for _, key := range keys() {
		for _, nonce := range nonces() {
			for _, counter := range counters() {
				for _, n := range []int{0, 1, 12, 63, 64, 65, 128, 200} {
					once, err := Turn(key, counter, nonce, row(n))
					if err != nil || len(once) != n {
						t.Fatalf("Turn of %d bytes: %d bytes, %v", n, len(once), err)
					}
					twice, err := Turn(key, counter, nonce, once)
					if err != nil || !bytes.Equal(twice, row(n)) {
						t.Errorf("%d bytes turned twice from %#x on: %x, %v", n, counter, twice, err)
					}
				}
			}
		}
	}
	most := row(api.MaxBytes)
	once, err1 := Turn(rising(), math.MaxUint32-9, row(12), most)
	twice, err2 := Turn(rising(), math.MaxUint32-9, row(12), once)
	if err1 != nil || err2 != nil || bytes.Equal(once, most) || !bytes.Equal(twice, most) {
		t.Errorf("as many bytes as may be, turned twice, aren't as they were: %v, %v", err1, err2)
	}
}

func TestNoncesOfOtherLengths(t *testing.T) {
	for _, nonce := range wrongNonces() {
		if got, err := Block(rising(), 1, nonce); !errors.Is(err, api.ErrForm) || got != nil {
			t.Errorf("Block with a nonce of %d bytes: %x, %v", len(nonce), got, err)
		}
		// ErrForm stands ahead of ErrLong.
		for _, n := range []int{0, 1, 12, 64, api.MaxBytes, api.MaxBytes + 1, 2 * api.MaxBytes} {
			if got, err := Turn(rising(), 1, nonce, row(n)); !errors.Is(err, api.ErrForm) || got != nil {
				t.Errorf("Turn of %d bytes with a nonce of %d: %d bytes, %v", n, len(nonce), len(got), err)
			}
		}
	}
}

func TestTooManyBytesAreLong(t *testing.T) {
	for _, n := range []int{api.MaxBytes + 1, api.MaxBytes + 64, 2 * api.MaxBytes, 1 << 20} {
		for _, counter := range []uint32{0, 1, math.MaxUint32} {
			if got, err := Turn(rising(), counter, row(12), make([]byte, n)); !errors.Is(err, api.ErrLong) || got != nil {
				t.Errorf("Turn of %d bytes: %d bytes, %v", n, len(got), err)
			}
		}
	}
}

func TestTurnOfNoBytes(t *testing.T) {
	for _, b := range [][]byte{nil, {}, row(64)[:0]} {
		if got, err := Turn(rising(), math.MaxUint32, row(12), b); err != nil || len(got) != 0 {
			t.Errorf("Turn of no bytes: %x, %v", got, err)
		}
	}
}

func TestBytesAreNeitherChangedNorKept(t *testing.T) {
	nonce := append(row(12), 0xaa, 0xbb)[:12] // room behind, which must stay as it is too
	text := append(row(100), 0xcc, 0xdd)[:100]
	key := rising()
	block, err1 := Block(key, 9, nonce)
	turn, err2 := Turn(key, 9, nonce, text)
	if err1 != nil || err2 != nil {
		t.Fatal(err1, err2)
	}
	if !bytes.Equal(nonce[:14], append(row(12), 0xaa, 0xbb)) || !bytes.Equal(text[:102], append(row(100), 0xcc, 0xdd)) {
		t.Error("bytes that were handed in are changed")
	}
	clear(nonce)
	clear(text)
	clear(key[:])
	if !bytes.Equal(block, reference(rising(), 9, row(12))) || !bytes.Equal(turn, referenceTurn(rising(), 9, row(12), row(100))) {
		t.Error("a later change shows in what was answered")
	}
}

func TestAnswersAreTheCallersOwn(t *testing.T) {
	for name, call := range map[string]func() ([]byte, error){
		"Block": func() ([]byte, error) { return Block(rising(), 4, row(12)) },
		"Turn":  func() ([]byte, error) { return Turn(rising(), 4, row(12), row(150)) },
	} {
		first, err := call()
		if err != nil {
			t.Fatal(err)
		}
		was := bytes.Clone(first)
		clear(first[:cap(first)])
		if second, err := call(); err != nil || !bytes.Equal(second, was) {
			t.Errorf("%s hangs on what was done to an answer of it", name)
		}
	}
}

func TestOneRowMayBeAllArguments(t *testing.T) {
	b := row(12)
	if got, err := Turn(rising(), 0, b, b); err != nil || !bytes.Equal(got, referenceTurn(rising(), 0, row(12), row(12))) {
		t.Errorf("Turn of the nonce itself: %x, %v", got, err)
	}
	long := row(200)
	if got, err := Turn(rising(), 0, long[60:72], long); err != nil || !bytes.Equal(got, referenceTurn(rising(), 0, row(200)[60:72], row(200))) {
		t.Errorf("Turn of bytes that hold the nonce: %x, %v", got, err)
	}
}

func BenchmarkTurnMost(b *testing.B) {
	key, nonce, text := rising(), row(12), row(api.MaxBytes)
	b.SetBytes(api.MaxBytes)
	for b.Loop() {
		if _, err := Turn(key, 0, nonce, text); err != nil {
			b.Fatal(err)
		}
	}
}
