"""Point 29: nets and pictures as texts."""

import itertools
import unittest

from arrowfind.errors import NoName, NoText, Ring, Twice, WrongSize
from arrowfind.nets import net_made
from arrowfind.pictures import picture_of
from arrowfind.texts import read_net, show_net, show_picture
from tests.helper import NAMES, Case, all_tied, shaped_nets, some_nets, thrown_nets

WET = "rain sun wet : rain>wet sun>wet"


def written(names, pieces):
    return " ".join([*names, ":", *pieces])


class ShowTest(Case):
    def test_nets(self):
        for net in some_nets():
            self.assertEqual(show_net(net), written(net[0], [tail + ">" + head for tail, head in net[1]]))

    def test_nets_by_hand(self):
        self.assertEqual(show_net(net_made(["rain", "sun", "wet"], [("sun", "wet"), ("rain", "wet")])), WET)
        self.assertEqual(show_net(net_made(["a"], [])), "a :")
        self.assertEqual(show_net(net_made(["b", "a"], [])), "b a :")
        self.assertEqual(show_net(net_made(["b", "a"], [("a", "b")])), "b a : a>b")

    def test_pictures(self):
        for net in itertools.chain(some_nets(), shaped_nets()):
            names, arrows, ties = picture_of(net)
            pieces = [tail + ">" + head for tail, head in arrows] + [one + "-" + other for one, other in ties]
            self.assertEqual(show_picture((names, arrows, ties)), written(names, pieces))

    def test_pictures_by_hand(self):
        row = net_made(["a", "b", "c", "d"], [("a", "c"), ("b", "c"), ("c", "d")])
        self.assertEqual(show_picture(picture_of(row)), "a b c d : a>c b>c c>d")
        self.assertEqual(show_picture(picture_of(net_made(["a", "b"], [("b", "a")]))), "a b : a-b")
        self.assertEqual(show_picture(picture_of(net_made(["a"], []))), "a :")
        both = net_made(["e", "d", "c", "b", "a"], [("a", "c"), ("b", "c"), ("d", "e")])
        self.assertEqual(show_picture(picture_of(both)), "e d c b a : b>c a>c e-d")


class ReadTest(Case):
    def test_what_is_shown(self):
        for net in itertools.chain(some_nets(), shaped_nets(), [all_tied(NAMES)]):
            self.assertEqual(read_net(show_net(net)), net)

    def test_arrows_in_any_order(self):
        for net in thrown_nets(sizes=(5, 8), each=4):
            pieces = [tail + ">" + head for tail, head in net[1]]
            self.assertEqual(read_net(written(net[0], pieces[::-1])), net)

    def test_few_by_hand(self):
        self.assertEqual(read_net("a :"), (("a",), ()))
        self.assertEqual(read_net("b a : a>b"), (("b", "a"), (("a", "b"),)))
        self.assertEqual(read_net("abcdefgh zzzzzzzz :"), (("abcdefgh", "zzzzzzzz"), ()))


class NoTextTest(Case):
    def no_texts(self, *texts):
        for text in texts:
            self.refused(NoText, read_net, text)

    def test_the_text_without_signs(self):
        self.no_texts("")

    def test_blanks(self):
        self.no_texts(" ", "  ", " a :", "a : ", "a  :", "a b  :", "a  b :", "a b :  a>b", "a b : a>b ", "  a :")
        self.no_texts("a b c : a>b  b>c", "a b : a> b", "a b : a >b", "a b : a > b")

    def test_tabs_and_line_ends(self):
        self.no_texts("a\tb :", "a\t:", "a :\t", "\ta :", "a b :\ta>b", "a b : a>b\t", "a b : a>\tb")
        self.no_texts("a\nb :", "a\n:", "a :\n", "\na :", "a b :\na>b", "a b : a>b\n", "a b : a>\nb", "\n", "\t")

    def test_colons(self):
        self.no_texts("a", "a b", "a b a>b", "a::", "a: a", "a:", "a :a>b", "a b :a>b", "a b: a>b")
        self.no_texts("a : :", "a b : : a>b", "a b : a>b :", ": a :", "a :: ", "a b ::", "a b : a:b")

    def test_no_name_ahead_of_the_colon(self):
        self.no_texts(":", ": a>b", ": ", " :", ": a")

    def test_names_that_are_no_words(self):
        self.no_texts("A :", "a1 :", "a b- :", "a-b :", "a>b :", "a . :", "abcdefghi :", "a abcdefghi : a>b")
        self.no_texts("a B : a>B", "1 :", "~ :", "a b a>b :")

    def test_pieces_that_are_no_arrows(self):
        for piece in (
            "a", "ab", ">", "a>", ">b", "a>>b", "a>b>c", "a-b", "a<b", "A>b", "a>B", "a>b,", "a=>b",
            "abcdefghi>b", "a>abcdefghi", "a>b1", "a>1", "-", ":>b", "a>:", "b>a>",
        ):
            self.no_texts("a b c : " + piece, "a b c : a>b " + piece, "a b c : " + piece + " a>b")

    def test_ahead_of_all_that_the_net_is_refused_for(self):
        self.no_texts("a a : A>b", "a b : a>x a", "a b : a>b b>a x", "a b c d e f g h i : a", "a a", "a b : a>a  ")
        self.no_texts("a b c : a>b b>c c>a :", "a b c d e f g h i :  ", "a a B :")


class RefusedNetTest(Case):
    def test_too_many_names(self):
        self.refused(WrongSize, read_net, "a b c d e f g h i :")
        self.refused(WrongSize, read_net, "a b c d e f g h i : x>y")
        self.refused(WrongSize, read_net, " ".join(["a"] * 9) + " :")
        self.assertEqual(read_net("a b c d e f g h :"), (tuple("abcdefgh"), ()))

    def test_many_names(self):
        self.refused(WrongSize, read_net, "a " * 2000 + ":")

    def test_names_twice(self):
        self.refused(Twice, read_net, "a a :")
        self.refused(Twice, read_net, "a b c b : x>y")

    def test_strange_names(self):
        self.refused(NoName, read_net, "a b : a>c")
        self.refused(NoName, read_net, "a b : c>a")
        self.refused(NoName, read_net, "a : x>x")
        self.refused(NoName, read_net, "a b : a>c a>a")

    def test_arrows_twice(self):
        self.refused(Twice, read_net, "a b : a>a")
        self.refused(Twice, read_net, "a b : a>b a>b")
        self.refused(Twice, read_net, "a b : a>b b>a")
        self.refused(Twice, read_net, "a b : a>a a>c")

    def test_rings(self):
        error = self.refused(Ring, read_net, "a b c : a>b b>c c>a")
        self.assertEqual(sorted(error.ring), ["a", "b", "c"])
        self.refused(Twice, read_net, "a b c : a>b b>c c>a a>b")


if __name__ == "__main__":
    unittest.main()
