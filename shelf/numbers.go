package shelf

// Programs that tell something of a number in digits, of two or of three.

const ackermannText = decText + numText + `u64 ack(u64 m, u64 n) {
	if (m == 0u) {
		return n + 1u;
	}
	if (n == 0u) {
		return ack(m - 1u, 1u);
	}
	return ack(m - 1u, ack(m, n - 1u));
}
i16 main() {
	u64 m = num();
	dec(ack(m, num()));
	return 0;
}
`

const aliquotText = decText + numText + `i16 main() {
	u32 n = num();
	u32 s = 0u;
	u32 d;
	for (d = 1u; d < n; d = d + 1u) {
		if (n % d == 0u) {
			s = s + d;
		}
	}
	dec(s);
	return 0;
}
`

const binaryText = numText + `i16 main() {
	u64 n = num();
	u64 b = 9223372036854775808u;
	while (b > 1u && (n & b) == 0u) {
		b = b >> 1;
	}
	while (b != 0u) {
		put(48 + ((n & b) != 0u));
		b = b >> 1;
	}
	put(10);
	return 0;
}
`

const collatzText = decText + numText + `i16 main() {
	u64 n = num();
	u32 k = 0u;
	while (n > 1u) {
		if (n & 1u) {
			n = n * 3u + 1u;
		} else {
			n = n >> 1;
		}
		k = k + 1u;
	}
	dec(k);
	return 0;
}
`

const factorialText = decText + numText + `u64 fact(u64 n) {
	if (n < 2u) {
		return 1u;
	}
	return n * fact(n - 1u);
}
i16 main() {
	dec(fact(num()));
	return 0;
}
`

const fibonacciText = decText + numText + `i16 main() {
	u64 n = num();
	u64 a = 0u;
	u64 b = 1u;
	while (n > 0u) {
		u64 c = a + b;
		a = b;
		b = c;
		n = n - 1u;
	}
	dec(a);
	return 0;
}
`

const gcdText = decText + numText + `i16 main() {
	u64 a = num();
	u64 b = num();
	while (b != 0u) {
		u64 c = a % b;
		a = b;
		b = c;
	}
	dec(a);
	return 0;
}
`

const hanoiText = numText + `void move(i16 n, i16 a, i16 b, i16 c) {
	if (n == 0) {
		return;
	}
	move(n - 1, a, c, b);
	put(a);
	put(b);
	put(10);
	move(n - 1, c, b, a);
}
i16 main() {
	move(num(), 65, 67, 66);
	return 0;
}
`

const lcmText = decText + numText + `i16 main() {
	u64 a = num();
	u64 b = num();
	u64 x = a;
	u64 y = b;
	while (y != 0u) {
		u64 z = x % y;
		x = y;
		y = z;
	}
	if (x != 0u) {
		x = a / x * b;
	}
	dec(x);
	return 0;
}
`

const modpowText = decText + numText + `i16 main() {
	u64 a = num();
	u64 b = num();
	u64 m = num() & 4294967295u;
	u64 r = 1u;
	a = a % m;
	r = r % m;
	while (b != 0u) {
		if (b & 1u) {
			r = r * a % m;
		}
		a = a * a % m;
		b = b >> 1;
	}
	dec(r);
	return 0;
}
`

const powerText = decText + numText + `i16 main() {
	u64 a = num();
	u64 b = num();
	u64 r = 1u;
	while (b != 0u) {
		if (b & 1u) {
			r = r * a;
		}
		a = a * a;
		b = b >> 1;
	}
	dec(r);
	return 0;
}
`

const primesText = decText + numText + `u8 s[200];
i16 main() {
	u64 n = num();
	i16 i;
	i16 k;
	for (i = 2; i < 200; i = i + 1) {
		if (i > n) {
			break;
		}
		if (s[i]) {
			continue;
		}
		dec(i);
		for (k = i + i; k < 200; k = k + i) {
			s[k] = 1;
		}
	}
	return 0;
}
`

const queensText = decText + numText + `u8 col[8];
u32 place(i16 row, i16 n) {
	u32 all = 0u;
	i16 c;
	i16 k;
	if (row == n) {
		return 1u;
	}
	for (c = 0; c < n; c = c + 1) {
		for (k = 0; k < row; k = k + 1) {
			i16 d = c - col[k];
			if (d == 0 || d == row - k || d == k - row) {
				break;
			}
		}
		if (k == row) {
			col[row] = c;
			all = all + place(row + 1, n);
		}
	}
	return all;
}
i16 main() {
	dec(place(0, num()));
	return 0;
}
`

const rootText = decText + numText + `i16 main() {
	u64 n = num();
	u64 r = 0u;
	u64 b = 2147483648u;
	while (b != 0u) {
		if ((r + b) * (r + b) <= n) {
			r = r + b;
		}
		b = b >> 1;
	}
	dec(r);
	return 0;
}
`
