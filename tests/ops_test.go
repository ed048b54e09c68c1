package tests

import (
	"strings"
	"testing"

	"loop.example/stowage/impl"
)

// How many bytes stand behind each op, told a second time.
func behind(op int) int {
	switch {
	case op == impl.OpPush, op >= impl.OpIfZero && op <= impl.OpIs:
		return 2
	case op >= impl.OpLoad && op <= impl.OpRefStore:
		return 1
	}
	return 0
}

// ends is the least and the most that may stand behind an op.
func ends(op int) (int, int) {
	switch {
	case op == impl.OpPush:
		return -32768, 32767
	case behind(op) == 2:
		return 0, 65535
	case behind(op) == 1:
		return 0, 255
	}
	return 0, 0
}

// goodOps are ops that have at most so many bytes.
func goodOps(d *dice, most int) []impl.Ins {
	var out []impl.Ins
	for at := 0; ; {
		op := d.below(impl.OpPrint + 1)
		if at+1+behind(op) > most {
			return out
		}
		low, high := ends(op)
		num := []int{low, high, low + d.below(high-low+1)}[d.below(3)]
		out = append(out, impl.Ins{At: at, Op: op, Num: num})
		at += 1 + behind(op)
	}
}

func TestOpsNumbers(t *testing.T) {
	if impl.OpPrint != 34 {
		t.Fatal("the last op")
	}
	for op := range impl.OpPrint + 1 {
		low, high := ends(op)
		for _, n := range []int{low, high, (low + high) / 2, max(low, -1), max(low, -2), min(1, high), min(256, high)} {
			text := string([]byte{byte(op), byte((n + 65536) / 256), byte(n + 65536)}[:1+behind(op)])
			if behind(op) == 1 {
				text = string([]byte{byte(op), byte(n)})
			}
			want := []impl.Ins{{At: 0, Op: op, Num: n}}
			if list, ok := impl.OpsGet(text); !ok || !same(list, want) {
				t.Errorf("%q is %v %v", text, list, ok)
			}
			if s := impl.OpsPut(want); s != text {
				t.Errorf("%v is %q", want, s)
			}
		}
		for _, n := range []int{low - 1, high + 1, low - 65536, high + 65536, high + 1<<32, -1 << 63, 1<<63 - 1} {
			if s := impl.OpsPut([]impl.Ins{{Op: op, Num: n}}); s != "" {
				t.Errorf("op %d with %d is %q", op, n, s)
			}
		}
	}
	for _, op := range []int{-1, -256, impl.OpPrint + 1, 255, 256, 257, 1 << 40, -1 << 63, 1<<63 - 1} {
		if s := impl.OpsPut([]impl.Ins{{Op: op}}); s != "" {
			t.Errorf("op %d is %q", op, s)
		}
	}
}

// Promise 6: all texts of at most two bytes, and many longer ones.
func TestOpsWrittenJustSo(t *testing.T) {
	try := func(s string) {
		list, ok := impl.OpsGet(s)
		if !ok {
			if len(list) > 0 {
				t.Fatalf("%q has %v", s, list)
			}
			return
		}
		if x := impl.OpsPut(list); x != s {
			t.Fatalf("%q is written as %q", s, x)
		}
	}
	for a := range 256 {
		one := string([]byte{byte(a)})
		if _, ok := impl.OpsGet(one); ok != (a <= impl.OpPrint && behind(a) == 0) {
			t.Fatalf("%q is %v", one, ok)
		}
		for b := range 256 {
			s := string([]byte{byte(a), byte(b)})
			try(s)
			ok := a <= impl.OpPrint && (behind(a) == 1 || behind(a) == 0 && b <= impl.OpPrint && behind(b) == 0)
			if _, got := impl.OpsGet(s); got != ok {
				t.Fatalf("%q is %v", s, got)
			}
		}
	}
	d := newDice(6)
	for range 20000 {
		s := make([]byte, d.below(30))
		for i := range s {
			s[i] = byte(d.below(36))
		}
		try(string(s))
	}
}

// Promise 6: ops are read back.
func TestOpsReadBack(t *testing.T) {
	for seed := range 3000 {
		d := newDice(seed)
		list := goodOps(d, 3+d.below(impl.CodeMax-2))
		s := impl.OpsPut(list)
		got, ok := impl.OpsGet(s)
		if s == "" || !ok || !same(got, list) {
			t.Fatalf("seed %d: %v is %q, that is %v %v", seed, list, s, got, ok)
		}
		for i := 1; i < len(list); i++ {
			if _, ok := impl.OpsGet(s[:list[i].At]); !ok {
				t.Fatalf("seed %d: cut ahead of an op", seed)
			}
			for cut := list[i-1].At + 1; cut < list[i].At; cut++ {
				if x, ok := impl.OpsGet(s[:cut]); ok || len(x) > 0 {
					t.Fatalf("seed %d: cut within an op: %v %v", seed, x, ok)
				}
			}
		}
	}
}

func TestOpsPlaces(t *testing.T) {
	d := newDice(9)
	for range 300 {
		list := goodOps(d, 40)
		for i := range list {
			for _, by := range []int{-1, 1, 3, -1 << 62, 1 << 62} {
				wrong := append([]impl.Ins(nil), list...)
				wrong[i].At += by
				if s := impl.OpsPut(wrong); s != "" {
					t.Fatalf("%v is %q", wrong, s)
				}
			}
		}
		if s := impl.OpsPut(list[1:]); s != "" {
			t.Fatalf("%v is %q", list[1:], s)
		}
	}
	if s := impl.OpsPut(nil); s != "" {
		t.Errorf("no ops are %q", s)
	}
	if list, ok := impl.OpsGet(""); ok || len(list) > 0 {
		t.Errorf("the empty text is %v %v", list, ok)
	}
}

func TestCodeMax(t *testing.T) {
	nops := func(n int) []impl.Ins {
		var out []impl.Ins
		for i := range n {
			out = append(out, impl.Ins{At: i})
		}
		return out
	}
	most := impl.CodeMax
	for _, n := range []int{1, most - 1, most} {
		text := strings.Repeat("\x00", n)
		if list, ok := impl.OpsGet(text); !ok || !same(list, nops(n)) {
			t.Error(n, list, ok)
		}
		if s := impl.OpsPut(nops(n)); s != text {
			t.Errorf("%d: %q", n, s)
		}
	}
	for _, n := range []int{most + 1, most + 256, 5000} {
		if list, ok := impl.OpsGet(strings.Repeat("\x00", n)); ok || len(list) > 0 {
			t.Error(n, list, ok)
		}
		if s := impl.OpsPut(nops(n)); s != "" {
			t.Errorf("%d: %q", n, s)
		}
	}
	for op := range impl.OpPrint + 1 { // the last op ends at the last byte, or one behind it
		for over := range 2 {
			at := most - 1 - behind(op) + over
			list := append(nops(at), impl.Ins{At: at, Op: op})
			text := strings.Repeat("\x00", at) + string([]byte{byte(op), 0, 0}[:1+behind(op)])
			if s := impl.OpsPut(list); (over == 0) != (s == text) || over == 1 && s != "" {
				t.Errorf("op %d at %d: %q", op, at, s)
			}
			if _, ok := impl.OpsGet(text); ok != (over == 0) {
				t.Errorf("op %d at %d: %v", op, at, ok)
			}
		}
	}
}

// Promise 7.
func TestOpsOneBehindTheOther(t *testing.T) {
	for seed := range 3000 {
		d := newDice(seed)
		a, b := goodOps(d, 3+d.below(80)), goodOps(d, 3+d.below(80))
		first, second := impl.OpsPut(a), impl.OpsPut(b)
		want := append([]impl.Ins(nil), a...)
		for _, in := range b {
			in.At += len(first)
			want = append(want, in)
		}
		got, ok := impl.OpsGet(first + second)
		if len(first)+len(second) > impl.CodeMax {
			if ok || len(got) > 0 {
				t.Fatalf("seed %d: too many bytes: %v", seed, got)
			}
			continue
		}
		if !ok || !same(got, want) {
			t.Fatalf("seed %d: %v %v, not %v", seed, got, ok, want)
		}
		if impl.OpsPut(want) != first+second {
			t.Fatalf("seed %d: OpsPut of both", seed)
		}
	}
}
