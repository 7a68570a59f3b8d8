package shelf

// Programs that tell bytes for the bytes that come in.

const base64Text = `void code(i16 v) {
	if (v < 26) {
		put(v + 65);
	} else if (v < 52) {
		put(v + 71);
	} else if (v < 62) {
		put(v - 4);
	} else if (v == 62) {
		put(43);
	} else {
		put(47);
	}
}
i16 main() {
	i16 a = get();
	i16 b;
	i16 c;
	while (a >= 0) {
		b = get();
		c = get();
		code(a >> 2);
		if (b < 0) {
			code((a & 3) << 4);
			put(61);
			put(61);
		} else {
			code((a & 3) << 4 | b >> 4);
			if (c < 0) {
				code((b & 15) << 2);
				put(61);
			} else {
				code((b & 15) << 2 | c >> 6);
				code(c & 63);
			}
		}
		a = get();
	}
	return 0;
}
`

const catText = `i16 main() {
	i16 c = get();
	while (c >= 0) {
		put(c);
		c = get();
	}
	return 0;
}
`

const hexText = `void digit(i16 d) {
	if (d < 10) {
		put(d + 48);
	} else {
		put(d + 87);
	}
}
i16 main() {
	i16 c = get();
	while (c >= 0) {
		digit(c >> 4);
		digit(c & 15);
		c = get();
	}
	return 0;
}
`

const reverseText = `u8 a[200];
i16 main() {
	i16 n = 0;
	i16 c = get();
	while (c >= 0 && n < 200) {
		a[n] = c;
		n = n + 1;
		c = get();
	}
	while (n > 0) {
		n = n - 1;
		put(a[n]);
	}
	return 0;
}
`

const rot13Text = `i16 main() {
	i16 c = get();
	while (c >= 0) {
		if (c >= 97 && c <= 122) {
			put((c - 97 + 13) % 26 + 97);
		} else {
			put(c);
		}
		c = get();
	}
	return 0;
}
`

const sortText = `u8 a[64];
i16 main() {
	i16 n = 0;
	i16 c = get();
	i16 k;
	while (c >= 0 && n < 64) {
		k = n;
		while (k > 0 && a[k - 1] > c) {
			a[k] = a[k - 1];
			k = k - 1;
		}
		a[k] = c;
		n = n + 1;
		c = get();
	}
	for (k = 0; k < n; k = k + 1) {
		put(a[k]);
	}
	return 0;
}
`

const upperText = `i16 main() {
	i16 c = get();
	while (c >= 0) {
		if (c >= 97 && c <= 122) {
			put(c - 32);
		} else {
			put(c);
		}
		c = get();
	}
	return 0;
}
`
